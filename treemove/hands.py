"""Hands: each makes moves of its own and hears those of others, by a clock that only rises."""

from treemove.errors import NoHand
from treemove.logs import Log
from treemove.moves import is_number


class Hand:
    """A number, a clock and a log."""

    def __init__(self, number):
        if not is_number(number, 0):
            raise NoHand("a hand is a whole number from 0")
        self.number = number
        self.clock = 0
        self.log = Log()

    def move(self, folder, under):
        """Put a folder under another one, or the top, behind all that is known: the move."""
        made = (self.clock + 1, self.number, folder, under)
        # The log refuses what is no move, so the clock is set only behind it.
        self.log.hear(made)
        self.clock = made[0]
        return made

    def hear(self, move):
        """Hear a move: True of a new one, False of one that is kept already."""
        is_new = self.log.hear(move)
        self.clock = max(self.clock, move[0])
        return is_new

    def tree(self):
        """The tree of all moves that were heard."""
        return self.log.tree()

    def settle(self, time):
        """Let go of the moves of lesser times, and answer how many they were."""
        many = self.log.settle(time)
        # An own move is one above the clock: from here on never below the time.
        self.clock = max(self.clock, time - 1)
        return many
