"""Moves: points 1, 6 and 15."""

import re
import unittest
from collections import namedtuple
from itertools import product

from treemove.errors import Clash, NoHand, NoMove, TooLate, TreeError
from treemove.moves import ahead, is_move, read, written

GREATEST = 10 ** 60
LEAST = (1, 0, 1, 0)
ORDINARY = (7, 2, 15, 4)
# What point 15 takes by its figures alone; the bounds of the numbers are asked besides.
FORM = re.compile(r"(0|[1-9][0-9]*)( (0|[1-9][0-9]*)){3}")


def with_at(move, place, thing):
    """The tuple in which another thing stands at one place."""
    return move[:place] + (thing,) + move[place + 1:]


def is_written(line):
    """Whether the text is a move as written, worked out another way than the program's."""
    if FORM.fullmatch(line) is None:
        return False
    words = line.split(" ")
    if max(len(word) for word in words) > 61:
        return False
    return all(low <= int(word) <= GREATEST for low, word in zip(LEAST, words))


class IsMove(unittest.TestCase):
    def told(self, thing, expected):
        self.assertIs(is_move(thing), expected, repr(thing)[:200])

    def test_ordinary(self):
        self.told(ORDINARY, True)
        self.told((1, 1, 1, 1), True)
        self.told((3, 0, 2, 2), True)

    def test_all_at_their_least_and_greatest(self):
        self.told(LEAST, True)
        self.told((GREATEST,) * 4, True)

    def test_each_number_at_its_least_and_one_below(self):
        for place, least in enumerate(LEAST):
            self.told(with_at(ORDINARY, place, least), True)
            self.told(with_at(ORDINARY, place, least - 1), False)
            self.told(with_at(LEAST, place, least - 1), False)

    def test_each_number_at_its_greatest_and_one_above(self):
        for place in range(4):
            self.told(with_at(ORDINARY, place, GREATEST), True)
            self.told(with_at(ORDINARY, place, GREATEST - 1), True)
            self.told(with_at(ORDINARY, place, GREATEST + 1), False)
            self.told(with_at((GREATEST,) * 4, place, GREATEST + 1), False)

    def test_numbers_far_off(self):
        for place in range(4):
            for number in (-GREATEST, -2, 10 ** 61, 10 ** 800):
                self.told(with_at(ORDINARY, place, number), False)

    def test_true_and_false_are_no_numbers(self):
        for place in range(4):
            for thing in (True, False):
                self.told(with_at(ORDINARY, place, thing), False)
                self.told(with_at((1, 1, 1, 1), place, thing), False)
        self.told((True, False, True, False), False)

    def test_other_things_at_each_place(self):
        for place in range(4):
            for thing in ("7", "", b"7", None, (7,), [7], {7: 7}, {7}, int, object()):
                self.told(with_at(ORDINARY, place, thing), False)

    def test_another_length(self):
        for length in (0, 1, 2, 3, 5, 6, 8):
            self.told((7,) * length, False)

    def test_no_tuple(self):
        for thing in (list(ORDINARY), [], "7 2 15 4", "7215", "", b"\x07\x02\x0f\x04", None, 0, 7, -1,
                      GREATEST, True, False, {}, dict.fromkeys(ORDINARY, 1), set(ORDINARY), range(1, 5),
                      object(), tuple, is_move, ORDINARY.__iter__()):
            self.told(thing, False)

    def test_a_tuple_within_a_tuple(self):
        self.told((ORDINARY,), False)
        self.told((ORDINARY,) * 4, False)

    def test_a_tuple_of_a_class_of_its_own_is_a_tuple_too(self):
        Four = namedtuple("Four", "time hand folder under")
        self.told(Four(*ORDINARY), True)
        self.told(Four(0, 0, 1, 0), False)

    def test_what_is_asked_about_stays_as_it_was(self):
        inner = [7]
        thing = (7, inner, 15, 4)
        asked = [7, 2, 15, 4]
        is_move(thing)
        is_move(asked)
        self.assertEqual((thing, inner, asked), ((7, [7], 15, 4), [7], [7, 2, 15, 4]))


class Ahead(unittest.TestCase):
    def told(self, one, other):
        """The one is ahead of the other, and the other is not ahead of it."""
        self.assertIs(ahead(one, other), True)
        self.assertIs(ahead(other, one), False)

    def test_a_lesser_time(self):
        self.told((1, 0, 5, 0), (2, 0, 5, 0))
        self.told((9, 0, 5, 0), (10, 0, 5, 0))

    def test_a_lesser_time_counts_before_the_hand(self):
        self.told((1, 9, 9, 9), (2, 0, 1, 0))
        self.told((1, GREATEST, GREATEST, GREATEST), (2, 0, 1, 0))

    def test_the_same_time_and_a_lesser_hand(self):
        self.told((4, 0, 5, 0), (4, 1, 5, 0))
        self.told((4, 9, 9, 9), (4, 10, 1, 0))

    def test_great_numbers(self):
        self.told((GREATEST - 1, 3, 1, 0), (GREATEST, 2, 1, 0))
        self.told((GREATEST, GREATEST - 1, 2, 2), (GREATEST, GREATEST, 1, 0))
        self.told((1, GREATEST, 1, 0), (GREATEST, 0, 1, 0))

    def test_one_and_the_same(self):
        for move in (ORDINARY, LEAST, (GREATEST,) * 4):
            self.assertIs(ahead(move, move), False)
            self.assertIs(ahead(move, tuple(list(move))), False)

    def test_folder_and_under_have_no_part_in_it(self):
        for one, other in product([(1, 0), (1, 2), (2, 1), (9, 9)], repeat=2):
            self.assertIs(ahead((3, 1) + one, (3, 1) + other), False)

    def test_every_pair_of_small_ones(self):
        moves = list(product((1, 2, 3), (0, 1, 2), (1, 2), (0, 2)))
        for one, other in product(moves, repeat=2):
            expected = one[0] < other[0] or (one[0] == other[0] and one[1] < other[1])
            self.assertIs(ahead(one, other), expected)


class Writing(unittest.TestCase):
    def test_the_very_text(self):
        self.assertEqual(written(ORDINARY), "7 2 15 4")
        self.assertEqual(written(LEAST), "1 0 1 0")
        self.assertEqual(written((120, 30, 1000, 0)), "120 30 1000 0")
        great = "1" + "0" * 60
        self.assertEqual(written((GREATEST,) * 4), " ".join([great] * 4))

    def test_read_of_a_text(self):
        self.assertEqual(read("7 2 15 4"), (7, 2, 15, 4))
        self.assertEqual(read("1 0 1 0"), LEAST)
        self.assertEqual(read(" ".join(["1" + "0" * 60] * 4)), (GREATEST,) * 4)

    def test_what_is_written_is_read_to_the_same_move(self):
        numbers = (0, 1, 2, 9, 10, 11, 100, 10 ** 30 + 7, GREATEST - 1, GREATEST)
        for move in product(numbers, repeat=4):
            if is_move(move):
                again = read(written(move))
                self.assertIs(type(again), tuple)
                self.assertEqual([type(number) for number in again], [int] * 4)
                self.assertEqual(again, move)

    def test_each_number_at_its_edges(self):
        for place, least in enumerate(LEAST):
            for number in (least, 5, GREATEST - 1, GREATEST):
                move = with_at(ORDINARY, place, number)
                self.assertEqual(read(written(move)), move)


class Refused(unittest.TestCase):
    def refused(self, line):
        with self.assertRaises(NoMove, msg=repr(line)[:200]):
            read(line)

    def test_a_refusal_has_its_names_and_no_other(self):
        for line in ("", "x", "1 2 3", "0 0 1 0", "1 0 1 " + "9" * 5000):
            for name in (NoMove, TreeError, ValueError):
                with self.assertRaises(name):
                    read(line)
            with self.assertRaises(NoMove) as caught:
                read(line)
            self.assertIs(type(caught.exception), NoMove)
            self.assertNotIsInstance(caught.exception, (TooLate, Clash, NoHand))

    def test_empty_and_blank(self):
        for line in ("", " ", "  ", "   ", "    ", "\n", "\t", "\t\t\t"):
            self.refused(line)

    def test_more_or_fewer_numbers(self):
        for many in (1, 2, 3, 5, 6, 8, 1000):
            self.refused(" ".join(["7"] * many))

    def test_blanks_elsewhere(self):
        for line in (" 7 2 15 4", "7 2 15 4 ", " 7 2 15 4 ", "7  2 15 4", "7 2  15 4", "7 2 15  4",
                     "7 2 15   4", "7 2 1 5 4", "7215 4", "72154"):
            self.refused(line)

    def test_a_blank_in_place_of_a_number(self):
        for line in (" 2 15 4", "7  15 4", "7 2  4", "7 2 15 "):
            self.refused(line)

    def test_other_marks_between(self):
        for mark in ("\t", "\n", "\r", "\r\n", "\v", "\f", "\x1c", "\x1f", "\0", ",", ", ", ";", "-", "_", ":"):
            self.refused(mark.join(["7", "2", "15", "4"]))
            self.refused("7 2 15" + mark + "4")
            self.refused("7" + mark + "2 15 4")

    def test_line_ends(self):
        for end in ("\n", "\r", "\r\n", "\t", "\0", "\x1c"):
            self.refused("7 2 15 4" + end)
            self.refused(end + "7 2 15 4")

    def test_signs_ahead_of_a_number(self):
        for place, sign in product(range(4), ("-", "+", "--", "~", "'", "0x", "0b", "#")):
            words = ["7", "2", "15", "4"]
            words[place] = sign + words[place]
            self.refused(" ".join(words))

    def test_a_sign_ahead_of_nought(self):
        for sign in "+-":
            self.refused("7 " + sign + "0 15 4")
            self.refused("7 2 15 " + sign + "0")

    def test_noughts_ahead(self):
        for place, noughts in product(range(4), ("0", "00", "0" * 61, "0" * 5000)):
            words = ["7", "2", "15", "4"]
            words[place] = noughts + words[place]
            self.refused(" ".join(words))

    def test_nought_written_twice(self):
        for line in ("7 00 15 4", "7 2 15 00", "7 000 15 000", "7 0" + "0" * 5000 + " 15 4"):
            self.refused(line)

    def test_other_words_for_numbers(self):
        for place, word in product(range(4), ("x", "1_0", "1,0", "1.0", "1e3", "7.", "seven", "True", "None",
                                              "(7)", "7L", "a", "f", "[7]", "'7'", "\"7\"")):
            words = ["7", "2", "15", "4"]
            words[place] = word
            self.refused(" ".join(words))

    def test_the_look_of_a_tuple(self):
        self.refused("(7, 2, 15, 4)")
        self.refused(repr(ORDINARY))

    def test_a_number_that_is_none_at_its_place(self):
        for place, least in enumerate(LEAST):
            words = ["7", "2", "15", "4"]
            words[place] = str(least - 1)
            self.refused(" ".join(words))
            words[place] = str(GREATEST + 1)
            self.refused(" ".join(words))
        self.refused("0 2 15 4")
        self.refused("7 2 0 4")

    def test_numbers_of_very_many_figures(self):
        for place, many in product(range(4), (61, 62, 63, 640, 900, 4299, 4300, 4301, 5000, 100000)):
            for figure in "19":
                words = ["7", "2", "15", "4"]
                words[place] = figure * many
                if not is_written(" ".join(words)):
                    self.refused(" ".join(words))
        self.refused(" ".join(["8" * 5000] * 4))
        self.refused("7 2 15 2" + "0" * 60)
        self.refused("7 2 15 1" + "0" * 61)

    def test_every_sign_set_in_at_every_place(self):
        for line in ("7 2 15 4", "1 0 1 0", "10 20 30 40"):
            for at, code in product(range(len(line) + 1), range(128)):
                self.same_as_told(line[:at] + chr(code) + line[at:])

    def test_every_sign_in_place_of_every_one(self):
        for line in ("7 2 15 4", "1 0 1 0", "10 20 30 40"):
            for at, code in product(range(len(line)), range(128)):
                self.same_as_told(line[:at] + chr(code) + line[at + 1:])

    def test_every_text_with_one_or_two_signs_left_out(self):
        for line in ("7 2 15 4", "1 0 1 0", "10 20 30 40"):
            for at, behind in product(range(len(line)), repeat=2):
                if at <= behind:
                    self.same_as_told(line[:at] + line[behind + 1:])

    def same_as_told(self, line):
        if is_written(line):
            self.assertEqual(written(read(line)), line)
        else:
            self.refused(line)


if __name__ == "__main__":
    unittest.main()
