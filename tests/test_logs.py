"""Logs: points 7 to 11, with what points 1 and 16 say of them."""

import unittest
from itertools import combinations, permutations, product

from plain import GREATEST, Numbers, gone_through, has_ring, many_moves, no_moves
from treemove.errors import Clash, NoHand, NoMove, TooLate, TreeError
from treemove.logs import Log

# 2 under 1 stands; 1 under 2 is passed over; 3 and 4 come below, and 1 under 4 is passed over too.
SAMPLE = [(1, 0, 1, 0), (2, 0, 2, 1), (2, 1, 1, 2), (3, 0, 3, 2), (4, 5, 4, 3), (5, 0, 1, 4), (5, 1, 3, 0)]
SAMPLE_TREE = {1: 0, 2: 1, 3: 0, 4: 3}
SAMPLE_WAYS = [[], [], [2, 1], [], [], [4, 3, 2, 1], []]


def log_of(moves):
    log = Log()
    for move in moves:
        log.hear(move)
    return log


def state(log):
    return log.moves(), log.tree(), log.steps(), log.since


class LogCase(unittest.TestCase):
    def refused(self, log, thing, refusal):
        """The thing is refused with this one of the four, and changes nothing."""
        ahead = state(log)
        with self.assertRaises(refusal) as caught:
            log.hear(thing)
        error = caught.exception
        self.assertIsInstance(error, TreeError)
        self.assertIsInstance(error, ValueError)
        for other in (NoMove, TooLate, Clash, NoHand):
            self.assertEqual(isinstance(error, other), other is refusal)
        self.assertEqual(state(log), ahead)

    def same_as_all(self, log, moves):
        """The log is as one that was never settled, but for the steps of those let go."""
        tree, steps = gone_through(moves)
        kept = [(move, way) for move, way in steps if move[0] >= log.since]
        self.assertEqual(log.tree(), tree)
        self.assertEqual(log.steps(), kept)
        self.assertEqual(log.moves(), [move for move, _ in kept])


class Hearing(LogCase):
    def test_a_new_log(self):
        self.assertEqual(state(Log()), ([], {}, [], 0))

    def test_one_move(self):
        log = Log()
        self.assertIs(log.hear((1, 0, 5, 0)), True)
        self.assertEqual(state(log), ([(1, 0, 5, 0)], {5: 0}, [((1, 0, 5, 0), [])], 0))

    def test_kinds_of_what_is_answered(self):
        log = log_of(SAMPLE)
        self.assertIs(type(log.moves()), list)
        self.assertIs(type(log.tree()), dict)
        self.assertIs(type(log.steps()), list)
        for step in log.steps():
            self.assertIs(type(step), tuple)
            self.assertEqual((len(step), type(step[0]), type(step[1])), (2, tuple, list))

    def test_sample(self):
        log = log_of(SAMPLE)
        self.assertEqual(log.moves(), SAMPLE)
        self.assertEqual(log.tree(), SAMPLE_TREE)
        self.assertEqual(log.steps(), list(zip(SAMPLE, SAMPLE_WAYS)))

    def test_every_order_leads_to_the_same(self):
        ahead = state(log_of(SAMPLE))
        for order in permutations(SAMPLE):
            log = Log()
            self.assertTrue(all([log.hear(move) is True for move in order]))
            self.assertEqual(state(log), ahead)

    def test_many_moves_in_some_orders(self):
        numbers = Numbers(7)
        moves = many_moves(numbers, 60, 9)
        for _ in range(20):
            self.same_as_all(log_of(numbers.mixed(moves)), moves)

    def test_told_order_is_by_time_then_by_hand(self):
        moves = [(2, 10, 1, 0), (2, 9, 1, 0), (10, 0, 1, 0), (9, 11, 1, 0), (1, GREATEST, 1, 0), (GREATEST, 0, 1, 0)]
        wanted = [(1, GREATEST, 1, 0), (2, 9, 1, 0), (2, 10, 1, 0), (9, 11, 1, 0), (10, 0, 1, 0), (GREATEST, 0, 1, 0)]
        self.assertEqual(log_of(moves).moves(), wanted)
        self.assertEqual(log_of(wanted[::-1]).moves(), wanted)

    def test_the_last_in_the_told_order_wins(self):
        for order in permutations([(1, 1, 5, 0), (1, 2, 5, 6), (2, 0, 5, 7)]):
            self.assertEqual(log_of(order).tree(), {5: 7})
        self.assertEqual(log_of([(1, 2, 5, 6), (1, 1, 5, 0)]).tree(), {5: 6})

    def test_every_two_and_three_moves_of_three_folders(self):
        pairs = list(product((1, 2, 3), (0, 1, 2, 3)))
        for many in (2, 3):
            for chosen in product(pairs, repeat=many):
                moves = [(1 + k // 2, k % 2, folder, under) for k, (folder, under) in enumerate(chosen)]
                self.same_as_all(log_of(moves[::-1]), moves)

    def test_a_move_twice_is_false_and_changes_nothing(self):
        log = log_of(SAMPLE)
        ahead = state(log)
        for move in SAMPLE:
            self.assertIs(log.hear(move), False)
            self.assertIs(log.hear(tuple(list(move))), False)
            self.assertEqual(state(log), ahead)

    def test_a_move_of_the_same_folders_at_another_time_or_hand_is_another(self):
        log = log_of([(1, 0, 5, 0)])
        self.assertIs(log.hear((2, 0, 5, 0)), True)
        self.assertIs(log.hear((1, 1, 5, 0)), True)
        self.assertEqual(log.moves(), [(1, 0, 5, 0), (1, 1, 5, 0), (2, 0, 5, 0)])

    def test_two_that_each_alone_close_no_ring_but_together_would(self):
        one, other = (1, 0, 1, 2), (1, 1, 2, 1)
        self.assertEqual(log_of([one]).tree(), {1: 2})
        self.assertEqual(log_of([other]).tree(), {2: 1})
        for order in ([one, other], [other, one]):
            log = log_of(order)
            self.assertEqual(log.tree(), {1: 2})
            self.assertEqual(log.steps(), [(one, []), (other, [1, 2])])

    def test_heard_late_it_makes_one_that_was_passed_over_stand(self):
        log = log_of([(1, 0, 1, 2), (3, 0, 2, 1)])
        self.assertEqual(log.steps(), [((1, 0, 1, 2), []), ((3, 0, 2, 1), [1, 2])])
        self.assertIs(log.hear((2, 0, 1, 0)), True)
        self.assertEqual(log.steps(), [((1, 0, 1, 2), []), ((2, 0, 1, 0), []), ((3, 0, 2, 1), [])])
        self.assertEqual(log.tree(), {1: 0, 2: 1})

    def test_heard_late_it_makes_one_that_stood_be_passed_over(self):
        log = log_of([(3, 0, 2, 1)])
        self.assertEqual(log.tree(), {2: 1})
        self.assertIs(log.hear((2, 0, 1, 2)), True)
        self.assertEqual(log.steps(), [((2, 0, 1, 2), []), ((3, 0, 2, 1), [1, 2])])
        self.assertEqual(log.tree(), {1: 2})

    def test_heard_late_it_changes_the_way(self):
        log = log_of([(1, 0, 1, 0), (2, 0, 2, 1), (5, 0, 1, 2)])
        self.assertEqual(log.steps()[-1], ((5, 0, 1, 2), [2, 1]))
        log.hear((3, 0, 3, 1))
        log.hear((4, 0, 2, 3))
        self.assertEqual(log.steps()[-1], ((5, 0, 1, 2), [2, 3, 1]))

    def test_never_a_ring(self):
        numbers = Numbers(11)
        for _ in range(30):
            self.assertFalse(has_ring(log_of(many_moves(numbers, 40, 5)).tree()))

    def test_two_logs_have_nothing_in_common(self):
        one, other = Log(), Log()
        one.hear((1, 0, 5, 0))
        one.settle(1)
        self.assertEqual(state(other), ([], {}, [], 0))
        other.hear((2, 0, 6, 0))
        self.assertEqual(state(one), ([(1, 0, 5, 0)], {5: 0}, [((1, 0, 5, 0), [])], 1))

    def test_all_numbers_at_their_least_and_greatest(self):
        least, greatest = (1, 0, 1, 0), (GREATEST, GREATEST, GREATEST, GREATEST - 1)
        log = log_of([greatest, least])
        self.assertEqual(log.moves(), [least, greatest])
        self.assertEqual(log.tree(), {1: 0, GREATEST: GREATEST - 1})


class Refusing(LogCase):
    def test_what_is_no_move(self):
        for log in (Log(), log_of(SAMPLE)):
            for thing in no_moves((3, 0, 3, 2)):
                with self.subTest(thing=str(type(thing))):
                    self.refused(log, thing, NoMove)

    def test_true_and_false_where_the_number_they_equal_is_kept(self):
        log = log_of([(1, 1, 1, 0), (2, 0, 2, 1)])
        for thing in ((True, 1, 1, 0), (1, True, 1, 0), (1, 1, True, 0), (1, 1, 1, False), (2, False, 2, 1)):
            self.refused(log, thing, NoMove)

    def test_no_move_where_it_would_be_too_late(self):
        log = log_of(SAMPLE)
        log.settle(100)
        for thing in no_moves((3, 0, 3, 2)):
            self.refused(log, thing, NoMove)

    def test_no_move_where_it_would_be_a_clash(self):
        log = log_of([(3, 0, 3, 2)])
        for thing in ((3, 0, 0, 2), (3, 0, 3, -1), (3, 0, 3, GREATEST + 1), (3, 0, True, 2), (3, 0, 3, None)):
            self.refused(log, thing, NoMove)

    def test_nothing_that_is_handed_in_is_changed(self):
        handed = [3, 0, 3, 2]
        self.refused(Log(), handed, NoMove)
        self.assertEqual(handed, [3, 0, 3, 2])

    def test_too_late(self):
        log = log_of([(9, 0, 1, 0)])
        log.settle(5)
        for time in (1, 2, 4):
            self.refused(log, (time, 0, 2, 0), TooLate)
            self.refused(log, (time, GREATEST, 2, 1), TooLate)
        self.assertIs(log.hear((5, 0, 2, 0)), True)
        self.assertIs(log.hear((6, 0, 2, 1)), True)

    def test_too_late_of_a_move_that_was_let_go(self):
        log = log_of(SAMPLE)
        log.settle(4)
        for move in SAMPLE[:4]:
            self.refused(log, move, TooLate)
        for move in SAMPLE[4:]:
            self.assertIs(log.hear(move), False)

    def test_too_late_where_it_would_be_a_clash(self):
        log = log_of(SAMPLE)
        log.settle(4)
        for time, hand, folder, under in SAMPLE[:4]:
            self.refused(log, (time, hand, folder + 1, under), TooLate)
            self.refused(log, (time, hand, folder, under + 1), TooLate)

    def test_too_late_at_every_time_where_it_is_settled_beyond_all(self):
        log = log_of(SAMPLE)
        log.settle(GREATEST + 1)
        for time in (1, 2, 5, 6, GREATEST - 1, GREATEST):
            self.refused(log, (time, 9, 9, 0), TooLate)

    def test_clash(self):
        log = log_of(SAMPLE)
        for time, hand, folder, under in SAMPLE:
            self.refused(log, (time, hand, folder + 1, under), Clash)
            self.refused(log, (time, hand, folder, under + 1), Clash)
            self.refused(log, (time, hand, folder + 7, under + 9), Clash)

    def test_clash_with_one_that_was_passed_over(self):
        log = log_of([(1, 0, 1, 2), (1, 1, 2, 1)])
        self.refused(log, (1, 1, 2, 0), Clash)
        self.refused(log, (1, 1, 3, 1), Clash)

    def test_clash_at_the_very_time_that_it_is_settled_with(self):
        log = log_of(SAMPLE)
        log.settle(5)
        self.refused(log, (5, 0, 1, 3), Clash)
        self.refused(log, (5, 1, 4, 0), Clash)
        self.assertIs(log.hear((5, 0, 1, 4)), False)


class Steps(LogCase):
    def way_of_last(self, moves):
        return log_of(moves).steps()[-1][1]

    def test_one_that_stands(self):
        self.assertEqual(self.way_of_last([(1, 0, 1, 0)]), [])
        self.assertEqual(self.way_of_last([(1, 0, 1, 2)]), [])
        self.assertEqual(self.way_of_last([(1, 0, 1, 2), (2, 0, 1, 2)]), [])
        self.assertEqual(self.way_of_last([(1, 0, 1, 2), (2, 0, 2, 0)]), [])

    def test_folder_and_under_the_same(self):
        self.assertEqual(self.way_of_last([(1, 0, 4, 4)]), [4])
        self.assertEqual(self.way_of_last([(1, 0, 4, 3), (2, 0, 3, 0), (3, 0, 4, 4)]), [4])
        self.assertEqual(log_of([(1, 0, 4, 4)]).tree(), {})
        self.assertEqual(log_of([(1, 0, 4, 3), (2, 0, 4, 4)]).tree(), {4: 3})

    def test_under_straight_under_the_folder(self):
        self.assertEqual(self.way_of_last([(1, 0, 2, 1), (2, 0, 1, 2)]), [2, 1])

    def test_the_way_ends_with_the_folder_though_the_way_up_goes_on(self):
        line = [(time, 0, time, time - 1) for time in range(1, 7)]
        self.assertEqual(self.way_of_last(line + [(7, 0, 3, 6)]), [6, 5, 4, 3])
        self.assertEqual(self.way_of_last(line + [(7, 0, 6, 6)]), [6])
        self.assertEqual(self.way_of_last(line + [(7, 0, 1, 6)]), [6, 5, 4, 3, 2, 1])

    def test_the_folder_stands_nowhere(self):
        self.assertEqual(self.way_of_last([(1, 0, 2, 1), (2, 0, 3, 2), (3, 0, 1, 3)]), [3, 2, 1])

    def test_the_tree_is_that_at_the_turn(self):
        moves = [(1, 0, 2, 1), (2, 0, 1, 2), (3, 0, 2, 0), (4, 0, 1, 2), (5, 0, 2, 1)]
        log = log_of(moves)
        self.assertEqual(log.steps(), list(zip(moves, [[], [2, 1], [], [], [1, 2]])))
        self.assertEqual(log.tree(), {2: 0, 1: 2})

    def test_one_that_is_passed_over_leaves_its_folder_where_it_stood(self):
        log = log_of([(1, 0, 1, 9), (2, 0, 2, 1), (3, 0, 1, 2)])
        self.assertEqual(log.tree(), {1: 9, 2: 1})


class Settling(LogCase):
    def test_how_many_were_let_go(self):
        for time, many in ((1, 0), (2, 1), (3, 3), (4, 4), (5, 5), (6, 7), (99, 7), (GREATEST + 1, 7), (10 ** 90, 7)):
            log = log_of(SAMPLE)
            self.assertEqual(log.settle(time), many)
            self.assertEqual(log.since, time)
            self.assertEqual(log.moves(), SAMPLE[many:])

    def test_of_an_empty_log(self):
        log = Log()
        self.assertEqual(log.settle(7), 0)
        self.assertEqual(state(log), ([], {}, [], 7))

    def test_a_time_that_is_not_greater_changes_nothing(self):
        log = log_of(SAMPLE)
        self.assertEqual(log.settle(0), 0)
        self.assertEqual(log.since, 0)
        log.settle(3)
        ahead = state(log)
        for time in (0, 1, 2, 3):
            self.assertEqual(log.settle(time), 0)
            self.assertEqual(state(log), ahead)
        self.assertIs(log.hear((3, 9, 9, 0)), True)

    def test_a_lesser_time_behind_a_greater_one_lets_nothing_in_again(self):
        log = log_of(SAMPLE)
        log.settle(4)
        log.settle(2)
        self.refused(log, (3, 7, 7, 0), TooLate)

    def test_the_tree_stays(self):
        for time in range(9):
            log = log_of(SAMPLE)
            log.settle(time)
            self.same_as_all(log, SAMPLE)
            self.assertEqual(log.tree(), SAMPLE_TREE)

    def test_moves_at_the_very_time_stay(self):
        log = log_of([(4, 0, 1, 0), (5, 0, 2, 1), (5, 1, 3, 2), (6, 0, 4, 3)])
        self.assertEqual(log.settle(5), 1)
        self.assertEqual(log.moves(), [(5, 0, 2, 1), (5, 1, 3, 2), (6, 0, 4, 3)])

    def test_at_the_very_time_one_may_come_ahead_of_those_that_stay(self):
        log = log_of([(1, 0, 1, 2), (5, 1, 2, 1)])
        log.settle(5)
        self.assertEqual(log.steps(), [((5, 1, 2, 1), [1, 2])])
        log.hear((5, 0, 1, 0))
        self.assertEqual(log.steps(), [((5, 0, 1, 0), []), ((5, 1, 2, 1), [])])
        self.assertEqual(log.tree(), {1: 0, 2: 1})

    def test_the_way_goes_through_what_was_let_go(self):
        log = log_of([(1, 0, 1, 0), (2, 0, 2, 1), (3, 0, 3, 2)])
        log.settle(4)
        log.hear((4, 0, 1, 3))
        self.assertEqual(log.steps(), [((4, 0, 1, 3), [3, 2, 1])])
        self.assertEqual(log.tree(), {1: 0, 2: 1, 3: 2})

    def test_beyond_the_greatest_time(self):
        log = log_of(SAMPLE + [(GREATEST, 0, 9, 0)])
        self.assertEqual(log.settle(GREATEST), 7)
        self.assertEqual(log.moves(), [(GREATEST, 0, 9, 0)])
        self.assertEqual(log.settle(GREATEST + 1), 1)
        self.assertEqual(log.settle(10 ** 5000), 0)
        self.assertEqual(state(log), ([], {**SAMPLE_TREE, 9: 0}, [], 10 ** 5000))

    def test_every_first_and_later_half_at_every_time(self):
        for time in range(1, 7):
            late = [move for move in SAMPLE if move[0] >= time]
            for many in range(len(late) + 1):
                for later in combinations(late, many):
                    log = log_of([move for move in SAMPLE if move not in later])
                    log.settle(time)
                    for move in later[::-1]:
                        log.hear(move)
                    self.same_as_all(log, SAMPLE)

    def test_several_one_behind_another(self):
        numbers = Numbers(3)
        for _ in range(20):
            moves, log, heard = many_moves(numbers, 80, 7), Log(), []
            for time in (4, 5, 11, 11, 2, 18, 30):
                coming = [move for move in numbers.mixed(moves) if move not in heard and move[0] >= log.since]
                early = [move for move in coming if move[0] < time]
                for move in early + coming[:9]:
                    self.assertIs(log.hear(move), move not in heard)
                    heard = heard + [move] * (move not in heard)
                ahead, kept, since = log.tree(), log.moves(), log.since
                gone = len([move for move in kept if move[0] < time]) if time > since else 0
                self.assertEqual(log.settle(time), gone)
                self.assertEqual(log.since, max(since, time))
                self.assertEqual(log.tree(), ahead)
                self.same_as_all(log, heard)


class Answers(LogCase):
    """What is answered is the asker's own: changing it, or doing more, changes nothing else."""

    def spoil(self, log):
        log.moves().clear()
        log.moves().append("x")
        log.tree().update({1: 99, 98: 0})
        log.tree().clear()
        for _, way in log.steps():
            way.append(5)
        for _, way in log.steps():
            way.clear()
        log.steps().reverse()
        log.steps().clear()

    def test_changing_them_changes_nothing_else(self):
        for time in (0, 3, 5, 9):
            log = log_of(SAMPLE)
            log.settle(time)
            self.spoil(log)
            self.same_as_all(log, SAMPLE)
            self.assertEqual(log.tree(), SAMPLE_TREE)
            log.hear((9, 9, 9, 4))
            self.spoil(log)
            self.same_as_all(log, SAMPLE + [(9, 9, 9, 4)])

    def test_changing_the_tree_ahead_of_settling_and_behind_it(self):
        log = log_of(SAMPLE)
        ahead = log.tree()
        log.settle(9)
        behind = log.tree()
        ahead.clear()
        behind.clear()
        self.assertEqual(log.tree(), SAMPLE_TREE)
        log.settle(10)
        self.assertEqual(log.tree(), SAMPLE_TREE)

    def test_two_answers_have_nothing_in_common(self):
        log = log_of(SAMPLE)
        first, second = log.steps(), log.steps()
        for _, way in first:
            way.append(7)
        self.assertEqual(second, list(zip(SAMPLE, SAMPLE_WAYS)))

    def test_one_that_was_answered_stays_as_it_was(self):
        log = log_of(SAMPLE)
        moves, tree, steps = log.moves(), log.tree(), log.steps()
        log.hear((1, 9, 2, 0))
        log.hear((9, 0, 4, 1))
        log.settle(4)
        log.hear((4, 0, 3, 4))
        log.settle(99)
        self.assertEqual(moves, SAMPLE)
        self.assertEqual(tree, SAMPLE_TREE)
        self.assertEqual(steps, list(zip(SAMPLE, SAMPLE_WAYS)))


class Sizes(LogCase):
    def test_a_log_of_as_many_moves_as_promised_and_beyond(self):
        numbers = Numbers(5)
        for many in (160, 170):
            moves = many_moves(numbers, many, 30)
            log = Log()
            for move in numbers.mixed(moves):
                log.hear(move)
                log.tree()
                log.steps()
            self.same_as_all(log, moves)

    def test_a_way_up_as_long_as_promised_and_beyond(self):
        for deepest in (80, 90):
            line = [(time, 0, time, time - 1) for time in range(1, deepest + 1)]
            ring = [(deepest + k, 0, k, deepest) for k in range(1, deepest + 1)]
            log = log_of((line + ring)[::-1])
            self.assertEqual(log.tree(), {folder: folder - 1 for folder in range(1, deepest + 1)})
            for k, (_, way) in enumerate(log.steps()[deepest:], start=1):
                self.assertEqual(way, list(range(deepest, k - 1, -1)))

    def test_a_wide_tree_of_many_that_were_let_go(self):
        log = Log()
        for time in range(1, 3001):
            log.hear((time, 0, time, time // 2))
            if time % 100 == 0:
                self.assertEqual(log.settle(time + 1), 100)
        self.assertEqual(log.tree(), {folder: folder // 2 for folder in range(1, 3001)})


if __name__ == "__main__":
    unittest.main()
