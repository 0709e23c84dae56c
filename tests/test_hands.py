"""Hands: point 12, with what points 1 and 16 say of them."""

import unittest

from plain import GREATEST, NO_NUMBERS, Numbers, gone_through, no_moves
from treemove.errors import Clash, NoHand, NoMove, TooLate, TreeError
from treemove.hands import Hand
from treemove.logs import Log

# No folder: the top, below it, above the greatest, and what is no number.
NO_FOLDERS = [0, -1, -GREATEST, GREATEST + 1, 10 ** 5000, True, False, None, "", "5", b"5", (5,), [5], {}, object()]
NO_UNDERS = NO_FOLDERS[1:]


def state(hand):
    log = hand.log
    return hand.number, hand.clock, log.since, log.moves(), log.steps(), log.tree(), hand.tree()


class HandCase(unittest.TestCase):
    def refused(self, hand, refusal, act):
        """What is done is refused with this one of the four, and changes nothing."""
        ahead = state(hand)
        with self.assertRaises(refusal) as caught:
            act()
        self.assertIsInstance(caught.exception, TreeError)
        self.assertIsInstance(caught.exception, ValueError)
        for other in (NoMove, TooLate, Clash, NoHand):
            self.assertEqual(isinstance(caught.exception, other), other is refusal)
        self.assertEqual(state(hand), ahead)


class Numbered(HandCase):
    def test_a_new_hand(self):
        for number in (0, 1, 59, 60, 61, 10 ** 40, GREATEST - 1, GREATEST):
            hand = Hand(number)
            self.assertEqual(state(hand), (number, 0, 0, [], [], {}, {}))
            self.assertIsInstance(hand.log, Log)

    def test_its_moves_have_its_number(self):
        for number in (0, 1, GREATEST):
            self.assertEqual(Hand(number).move(5, 0), (1, number, 5, 0))

    def test_what_is_no_number_of_a_hand(self):
        for thing in NO_NUMBERS + [GREATEST + 1, 10 ** 61, 10 ** 5000]:
            with self.subTest(thing=str(type(thing))):
                with self.assertRaises(NoHand) as caught:
                    Hand(thing)
                self.assertIsInstance(caught.exception, TreeError)
                self.assertNotIsInstance(caught.exception, (NoMove, TooLate, Clash))

    def test_two_hands_have_nothing_in_common(self):
        one, other = Hand(3), Hand(3)
        one.move(5, 0)
        one.settle(1)
        self.assertEqual(state(other), (3, 0, 0, [], [], {}, {}))
        self.assertIsNot(one.log, other.log)


class OwnMoves(HandCase):
    def test_the_time_is_one_above_the_clock(self):
        hand = Hand(4)
        self.assertEqual(hand.move(5, 0), (1, 4, 5, 0))
        self.assertEqual(hand.clock, 1)
        self.assertEqual(hand.move(6, 5), (2, 4, 6, 5))
        self.assertEqual(hand.clock, 2)
        self.assertEqual(hand.log.moves(), [(1, 4, 5, 0), (2, 4, 6, 5)])
        self.assertEqual(hand.tree(), {5: 0, 6: 5})
        self.assertIs(type(hand.move(7, 7)), tuple)

    def test_one_that_closes_a_ring_is_a_move_too(self):
        hand = Hand(0)
        hand.move(1, 2)
        self.assertEqual(hand.move(2, 1), (2, 0, 2, 1))
        self.assertEqual(hand.move(3, 3), (3, 0, 3, 3))
        self.assertEqual((hand.clock, hand.tree()), (3, {1: 2}))
        self.assertEqual([way for _, way in hand.log.steps()], [[], [1, 2], [3]])

    def test_folders_at_their_least_and_greatest(self):
        hand = Hand(0)
        self.assertEqual(hand.move(1, 0), (1, 0, 1, 0))
        self.assertEqual(hand.move(GREATEST, GREATEST - 1), (2, 0, GREATEST, GREATEST - 1))
        self.assertEqual(hand.move(GREATEST - 1, GREATEST), (3, 0, GREATEST - 1, GREATEST))
        self.assertEqual(hand.tree(), {1: 0, GREATEST: GREATEST - 1})

    def test_where_folder_or_under_is_none(self):
        for clock in (0, 3):
            hand = Hand(1)
            if clock:
                hand.hear((clock, 9, 8, 0))
            for thing in NO_FOLDERS:
                self.refused(hand, NoMove, lambda: hand.move(thing, 0))
                self.refused(hand, NoMove, lambda: hand.move(thing, 7))
            for thing in NO_UNDERS:
                self.refused(hand, NoMove, lambda: hand.move(7, thing))
            self.assertEqual(hand.move(7, 0), (clock + 1, 1, 7, 0))

    def test_where_its_time_would_be_too_great(self):
        hand = Hand(1)
        hand.hear((GREATEST - 1, 0, 5, 0))
        self.assertEqual(hand.move(6, 5), (GREATEST, 1, 6, 5))
        self.assertEqual(hand.clock, GREATEST)
        for _ in range(2):
            self.refused(hand, NoMove, lambda: hand.move(7, 5))
        self.assertEqual(hand.tree(), {5: 0, 6: 5})

    def test_where_its_time_would_be_too_great_behind_settling(self):
        for time in (GREATEST + 1, GREATEST + 2, 10 ** 100):
            hand = Hand(1)
            hand.move(5, 0)
            self.assertEqual(hand.settle(time), 1)
            self.assertEqual(hand.clock, time - 1)
            self.refused(hand, NoMove, lambda: hand.move(6, 5))
            self.assertEqual(hand.tree(), {5: 0})

    def test_behind_all_that_it_knows_and_never_too_late(self):
        numbers, hand = Numbers(17), Hand(2)
        for turn in range(300):
            what = numbers.below(4)
            if what == 0:
                hand.settle(hand.clock + numbers.below(5))
            elif what < 3:
                hand.hear((hand.log.since + 1 + numbers.below(6), 10 + turn, 1 + numbers.below(5), numbers.below(6)))
            known, clock, since = hand.log.moves(), hand.clock, hand.log.since
            made = hand.move(1 + numbers.below(5), numbers.below(6))
            self.assertEqual(made[:2], (clock + 1, 2))
            self.assertGreaterEqual(made[0], since)
            self.assertEqual(hand.log.moves(), known + [made])
            self.assertTrue(all(move[0] < made[0] for move in known))


class Hearing(HandCase):
    def test_a_greater_time_sets_the_clock(self):
        hand = Hand(0)
        self.assertIs(hand.hear((7, 3, 5, 0)), True)
        self.assertEqual(hand.clock, 7)
        self.assertIs(hand.hear((8, 1, 6, 0)), True)
        self.assertEqual(hand.clock, 8)
        self.assertEqual(hand.move(9, 5), (9, 0, 9, 5))

    def test_a_lesser_time_and_the_same_leave_it(self):
        hand = Hand(0)
        hand.hear((7, 3, 5, 0))
        for time in (1, 6, 7):
            self.assertIs(hand.hear((time, 4, 6, 5)), True)
            self.assertEqual(hand.clock, 7)
        self.assertEqual(len(hand.log.moves()), 4)

    def test_one_that_is_kept_already_is_false_and_leaves_it(self):
        hand = Hand(0)
        hand.hear((7, 3, 5, 0))
        own = hand.move(6, 5)
        ahead = state(hand)
        for move in ((7, 3, 5, 0), own):
            self.assertIs(hand.hear(move), False)
            self.assertEqual(state(hand), ahead)

    def test_its_log_hears(self):
        hand = Hand(0)
        moves = [(3, 1, 1, 2), (2, 5, 2, 1), (9, 0, 3, 1)]
        for move in moves:
            hand.hear(move)
        tree, steps = gone_through(moves)
        self.assertEqual((hand.tree(), hand.log.tree(), hand.log.steps()), (tree, tree, steps))

    def test_one_of_its_own_number(self):
        hand = Hand(4)
        self.assertIs(hand.hear((5, 4, 1, 0)), True)
        self.assertEqual(hand.move(2, 1), (6, 4, 2, 1))

    def test_what_is_no_move(self):
        hand = Hand(0)
        hand.hear((7, 3, 5, 0))
        for thing in no_moves((9, 0, 3, 2)):
            self.refused(hand, NoMove, lambda: hand.hear(thing))

    def test_too_late(self):
        hand = Hand(0)
        hand.hear((7, 3, 5, 0))
        hand.settle(20)
        for move in ((7, 3, 5, 0), (19, 3, 5, 0), (1, 1, 1, 1)):
            self.refused(hand, TooLate, lambda: hand.hear(move))

    def test_clash(self):
        hand = Hand(0)
        hand.hear((7, 3, 5, 0))
        self.refused(hand, Clash, lambda: hand.hear((7, 3, 5, 1)))
        self.refused(hand, Clash, lambda: hand.hear((7, 3, 6, 0)))


class Settling(HandCase):
    def test_its_log_is(self):
        hand = Hand(0)
        for time in (2, 3, 3, 5):
            hand.hear((time, 9 + len(hand.log.moves()), time, 0))
        self.assertEqual(hand.settle(3), 1)
        self.assertEqual((hand.log.since, hand.clock), (3, 5))
        self.assertEqual(hand.settle(5), 2)
        self.assertEqual((hand.log.since, hand.clock), (5, 5))
        self.assertEqual(hand.tree(), {2: 0, 3: 0, 5: 0})

    def test_the_clock_becomes_the_time_less_one_where_this_is_greater(self):
        for time, clock in ((0, 5), (1, 5), (5, 5), (6, 5), (7, 6), (8, 7), (100, 99), (10 ** 90, 10 ** 90 - 1)):
            hand = Hand(0)
            hand.hear((5, 1, 1, 0))
            hand.settle(time)
            self.assertEqual(hand.clock, clock)
            self.assertEqual(hand.log.since, time)

    def test_of_a_new_hand(self):
        for time, clock in ((0, 0), (1, 0), (2, 1), (9, 8)):
            hand = Hand(0)
            self.assertEqual(hand.settle(time), 0)
            self.assertEqual((hand.clock, hand.log.since), (clock, time))
            self.assertEqual(hand.move(1, 0), (clock + 1, 0, 1, 0))

    def test_a_time_that_is_not_greater_changes_nothing(self):
        hand = Hand(0)
        hand.hear((12, 1, 1, 0))
        hand.settle(9)
        ahead = state(hand)
        for time in (0, 1, 8, 9):
            self.assertEqual(hand.settle(time), 0)
            self.assertEqual(state(hand), ahead)

    def test_its_own_move_at_the_very_time_is_not_too_late(self):
        hand = Hand(0)
        hand.settle(50)
        self.assertEqual(hand.move(1, 0), (50, 0, 1, 0))
        self.assertEqual(hand.log.moves(), [(50, 0, 1, 0)])

    def test_the_tree_stays(self):
        hand = Hand(0)
        hand.move(1, 2)
        hand.move(2, 1)
        hand.move(3, 1)
        self.assertEqual(hand.settle(3), 2)
        self.assertEqual(hand.tree(), {1: 2, 3: 1})
        self.assertEqual(hand.settle(4), 1)
        self.assertEqual(hand.tree(), {1: 2, 3: 1})
        hand.move(2, 3)
        self.assertEqual(hand.log.steps(), [((4, 0, 2, 3), [3, 1, 2])])


class Answers(HandCase):
    def test_changing_the_tree_changes_nothing_else(self):
        hand = Hand(0)
        for time in (0, 1, 3):
            hand.move(1, 0)
            hand.settle(time)
            ahead = state(hand)
            hand.tree().clear()
            hand.tree()[1] = 9
            self.assertEqual(state(hand), ahead)

    def test_one_that_was_answered_stays_as_it_was(self):
        hand = Hand(0)
        hand.move(1, 0)
        tree = hand.tree()
        hand.move(1, 2)
        hand.hear((1, 1, 3, 1))
        hand.settle(9)
        self.assertEqual(tree, {1: 0})


if __name__ == "__main__":
    unittest.main()
