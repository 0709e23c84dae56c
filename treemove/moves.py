"""Moves: what they are, their told order, and how they are written and read.

A move is a tuple of four numbers (time, hand, folder, under).
"""

from treemove.errors import NoMove

GREATEST = 10 ** 60


def is_number(thing, least):
    """Whether the thing is a whole number from the least one to the greatest of all."""
    # Python counts True and False among its integers, the document does not.
    if isinstance(thing, bool) or not isinstance(thing, int):
        return False
    return least <= thing <= GREATEST


def is_move(thing):
    """Whether the thing, whatever it is, is a move."""
    if not isinstance(thing, tuple) or len(thing) != 4:
        return False
    time, hand, folder, under = thing
    if not is_number(time, 1) or not is_number(hand, 0):
        return False
    return is_number(folder, 1) and is_number(under, 0)


def ahead(one, other):
    """Whether the one move is ahead of the other in the told order."""
    # What is moved has no part in the order: time and hand alone tell moves apart.
    return (one[0], one[1]) < (other[0], other[1])


def written(move):
    """The text of a move: its numbers in figures, one blank between."""
    return " ".join([str(number) for number in move])


def read(line):
    """The move that a text was written from; NoMove where it was written from none."""
    words = line.split(" ")
    if not all([_is_figures(word) for word in words]):
        raise NoMove("a move is written as four numbers in figures, one blank between")
    move = tuple([int(word) for word in words])
    if not is_move(move):
        raise NoMove("these numbers are no move")
    return move


def _is_figures(word):
    """Whether the word is a number in figures, of no more than the greatest one has."""
    if not word.isascii() or not word.isdigit():
        return False
    if word.startswith("0") and word != "0":
        return False
    # Python refuses, by an error of its own, to make a number of thousands of figures.
    return len(word) <= len(str(GREATEST))
