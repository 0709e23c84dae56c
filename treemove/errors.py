"""The errors with which the program refuses what it is handed."""


class TreeError(ValueError):
    """Any refusal."""


class NoMove(TreeError):
    """What was handed in is no move, or a text is none as written."""


class TooLate(TreeError):
    """A move's time is below that which the log is settled with."""


class Clash(TreeError):
    """Another move that is kept has the same time and hand."""


class NoHand(TreeError):
    """What was handed in is no number of a hand, or of hands."""
