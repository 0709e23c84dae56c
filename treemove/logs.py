"""Logs: the moves that were heard, in whatever order, and what they lead to."""

from treemove.errors import Clash, NoMove, TooLate
from treemove.moves import is_move
from treemove.trees import way_up


class Log:
    """Hears moves in any order, keeps each once, and lets go of old ones when it is settled."""

    def __init__(self):
        self.since = 0
        # No move that is still to come can be ahead of those let go, so their tree is all it takes.
        self._settled = {}
        # By (time, hand), which no two of the moves have in common.
        self._kept = {}

    def hear(self, move):
        """Keep a move: True of a new one, False of one that is kept already."""
        if not is_move(move):
            raise NoMove("a log hears moves only")
        told = (move[0], move[1])
        if move[0] < self.since:
            raise TooLate("the log is settled with a later time")
        if told in self._kept:
            if self._kept[told] != move:
                raise Clash("another move of this time and hand is kept")
            return False
        self._kept[told] = move
        return True

    def moves(self):
        """The moves that are kept, in the told order."""
        return [self._kept[told] for told in sorted(self._kept)]

    def tree(self):
        """The tree of all moves that were heard."""
        tree, _ = _gone_through(self._settled, self.moves())
        return tree

    def steps(self):
        """The pairs (move, way) of the moves that are kept, in the told order."""
        _, steps = _gone_through(self._settled, self.moves())
        return steps

    def settle(self, time):
        """Let go of the moves of lesser times, and answer how many they were."""
        if time <= self.since:
            return 0
        gone = [move for move in self.moves() if move[0] < time]
        self._settled, _ = _gone_through(self._settled, gone)
        self._kept = {told: self._kept[told] for told in self._kept if told[0] >= time}
        self.since = time
        return len(gone)


def _gone_through(ahead_of_all, moves):
    """The tree that moves in their told order make of the one ahead of them, and their steps."""
    tree = dict(ahead_of_all)
    steps = []
    for move in moves:
        folder, under = move[2], move[3]
        way = way_up(tree, under)
        if folder in way:
            steps.append((move, way[:way.index(folder) + 1]))
        else:
            # Not by `put`, which copies the whole tree for each move.
            tree[folder] = under
            steps.append((move, []))
    return tree, steps
