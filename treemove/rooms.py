"""Rooms: some hands, and the moves that are under way from each to the others."""

from treemove.errors import NoHand
from treemove.hands import Hand
from treemove.moves import is_number

MOST_HANDS = 60


class Room:
    """Hands with the numbers 0, 1 and so on."""

    def __init__(self, many):
        if not is_number(many, 1) or many > MOST_HANDS:
            raise NoHand("a room has 1 to 60 hands")
        self.hands = [Hand(number) for number in range(many)]
        self._under_way = [[] for hand in self.hands]

    def move(self, number, folder, under):
        """A hand's own move, which is under way then to each other hand."""
        self._refuse_stranger(number)
        made = self.hands[number].move(folder, under)
        for hand in self.hands:
            if hand.number != number:
                self._under_way[hand.number].append(made)
        return made

    def waiting(self, number):
        """The moves that are under way to a hand, in the order in which they were put there."""
        self._refuse_stranger(number)
        return list(self._under_way[number])

    def carry(self, number, place):
        """Carry the move at a place to the hand, which hears it: the move, or None."""
        self._refuse_stranger(number)
        line = self._under_way[number]
        if not line:
            return None
        carried = line.pop(place % len(line))
        self.hands[number].hear(carried)
        return carried

    def double(self, number, place):
        """Put a double of the move at a place behind all that is under way: the move, or None."""
        self._refuse_stranger(number)
        line = self._under_way[number]
        if not line:
            return None
        doubled = line[place % len(line)]
        line.append(doubled)
        return doubled

    def settle(self):
        """Settle each hand one above the greatest clock: False where something is under way."""
        if any(self._under_way):
            return False
        time = max([hand.clock for hand in self.hands]) + 1
        for hand in self.hands:
            hand.settle(time)
        return True

    def _refuse_stranger(self, number):
        """NoHand of what is no number of a hand of this room, whatever it is."""
        if not is_number(number, 0) or number >= len(self.hands):
            raise NoHand("no hand of this room has this number")
