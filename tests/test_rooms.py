"""Rooms: points 13 and 14, with what points 1 and 16 say of them."""

import unittest

from plain import GREATEST, NO_NUMBERS, Numbers, gone_through, has_ring
from treemove.errors import Clash, NoHand, NoMove, TooLate, TreeError
from treemove.hands import Hand
from treemove.rooms import Room


def state(room):
    """All that can be asked of a room."""
    hands = [(hand.number, hand.clock, hand.log.since, hand.log.steps(), hand.tree()) for hand in room.hands]
    return hands, [room.waiting(number) for number in range(len(room.hands))]


def carry_all(room):
    for number in range(len(room.hands)):
        while room.carry(number, -1) is not None:
            pass


def room_of_line(many=2, moves=5):
    """A room in which hand 0 has made moves, which are under way to each other one."""
    room = Room(many)
    return room, [room.move(0, folder, folder - 1) for folder in range(1, moves + 1)]


class RoomCase(unittest.TestCase):
    def refused(self, room, refusal, act):
        """What is done is refused with this one of the four, and changes nothing."""
        ahead = state(room)
        with self.assertRaises(refusal) as caught:
            act()
        self.assertIsInstance(caught.exception, TreeError)
        self.assertIsInstance(caught.exception, ValueError)
        for other in (NoMove, TooLate, Clash, NoHand):
            self.assertEqual(isinstance(caught.exception, other), other is refusal)
        self.assertEqual(state(room), ahead)


class HowMany(RoomCase):
    def test_one_to_sixty(self):
        for many in (1, 2, 3, 59, 60):
            room = Room(many)
            self.assertIs(type(room.hands), list)
            self.assertEqual([hand.number for hand in room.hands], list(range(many)))
            for hand in room.hands:
                self.assertIs(type(hand), Hand)
                self.assertEqual((hand.clock, hand.log.moves(), hand.tree()), (0, [], {}))
                self.assertEqual(room.waiting(hand.number), [])

    def test_no_other_number_and_nothing_else(self):
        for thing in NO_NUMBERS + [0, 61, 62, 100, GREATEST, GREATEST + 1, 10 ** 5000]:
            with self.subTest(thing=str(type(thing))):
                with self.assertRaises(NoHand) as caught:
                    Room(thing)
                self.assertNotIsInstance(caught.exception, (NoMove, TooLate, Clash))

    def test_two_rooms_have_nothing_in_common(self):
        one, other = Room(2), Room(2)
        ahead = state(other)
        one.move(0, 1, 0)
        one.double(1, 0)
        one.carry(1, 0)
        self.assertEqual(state(other), ahead)


class Moving(RoomCase):
    def test_the_move_is_the_hands(self):
        room = Room(3)
        self.assertEqual(room.move(1, 5, 0), (1, 1, 5, 0))
        self.assertEqual(room.move(1, 6, 5), (2, 1, 6, 5))
        self.assertEqual(room.move(2, 6, 0), (1, 2, 6, 0))
        self.assertEqual([hand.clock for hand in room.hands], [0, 2, 1])
        self.assertEqual([hand.tree() for hand in room.hands], [{}, {5: 0, 6: 5}, {6: 0}])

    def test_it_is_under_way_to_each_other_one_behind_what_was_there(self):
        room = Room(3)
        first, second = room.move(1, 5, 0), room.move(0, 6, 0)
        third, fourth = room.move(1, 7, 5), room.move(2, 8, 0)
        self.assertEqual(room.waiting(0), [first, third, fourth])
        self.assertEqual(room.waiting(1), [second, fourth])
        self.assertEqual(room.waiting(2), [first, second, third])

    def test_one_that_closes_a_ring_is_under_way_too(self):
        room = Room(2)
        self.assertEqual(room.move(0, 5, 5), (1, 0, 5, 5))
        self.assertEqual(room.waiting(1), [(1, 0, 5, 5)])

    def test_in_a_room_of_one_nothing_is_under_way(self):
        room = Room(1)
        self.assertEqual(room.move(0, 5, 0), (1, 0, 5, 0))
        self.assertEqual(room.waiting(0), [])
        self.assertIsNone(room.carry(0, 0))
        self.assertIsNone(room.double(0, 0))

    def test_each_hand_of_sixty(self):
        room = Room(60)
        moves = [room.move(number, 100 + number, 0) for number in (0, 30, 59)]
        for number in range(60):
            self.assertEqual(room.waiting(number), [move for move in moves if move[1] != number])

    def test_where_folder_or_under_is_none(self):
        room, _ = room_of_line()
        for thing in (0, -1, GREATEST + 1, True, False, None, "5", [5], (5,)):
            for number in (0, 1):
                self.refused(room, NoMove, lambda: room.move(number, thing, 0))
        for thing in (-1, GREATEST + 1, True, False, None, "5", [5], (5,)):
            for number in (0, 1):
                self.refused(room, NoMove, lambda: room.move(number, 5, thing))


class Carrying(RoomCase):
    def test_each_place_and_counted_round(self):
        for many in (1, 2, 3, 5):
            for place in (*range(-12, 13), GREATEST, -GREATEST, 10 ** 5000, -10 ** 5000 - 1):
                room, moves = room_of_line(2, many)
                at = place % many
                self.assertEqual(room.carry(1, place), moves[at])
                self.assertEqual(room.waiting(1), moves[:at] + moves[at + 1:])
                self.assertEqual(room.hands[1].log.moves(), [moves[at]])
                self.assertEqual(room.hands[1].clock, moves[at][0])

    def test_counted_round_by_how_many_are_still_there(self):
        room, moves = room_of_line(2, 3)
        self.assertEqual(room.carry(1, 4), moves[1])
        self.assertEqual(room.carry(1, 3), moves[2])
        self.assertEqual(room.carry(1, -7), moves[0])
        self.assertIsNone(room.carry(1, 0))

    def test_it_is_carried_to_that_hand_alone(self):
        room, moves = room_of_line(3, 2)
        room.carry(2, 0)
        self.assertEqual([hand.log.moves() for hand in room.hands], [moves, [], moves[:1]])
        self.assertEqual((room.waiting(1), room.waiting(2)), (moves, moves[1:]))

    def test_none_where_nothing_is_under_way(self):
        room, _ = room_of_line()
        ahead = state(room)
        for place in (0, 1, -1, GREATEST, -10 ** 5000):
            self.assertIsNone(room.carry(0, place))
            self.assertIsNone(room.double(0, place))
            self.assertEqual(state(room), ahead)

    def test_a_move_carried_later_may_be_ahead_of_those_carried(self):
        room = Room(2)
        room.move(0, 1, 2)
        room.move(0, 1, 0)
        room.move(0, 2, 1)
        for place, tree in ((2, {2: 1}), (0, {1: 2}), (0, {1: 0, 2: 1})):
            room.carry(1, place)
            self.assertEqual(room.hands[1].tree(), tree)

    def test_the_next_own_move_is_behind_what_was_carried(self):
        room, _ = room_of_line(2, 5)
        room.carry(1, 3)
        self.assertEqual(room.move(1, 9, 0), (5, 1, 9, 0))


class Doubling(RoomCase):
    def test_each_place_and_counted_round_behind_all_else(self):
        for many in (1, 2, 3, 5):
            for place in (*range(-12, 13), GREATEST, -GREATEST, 10 ** 5000, -10 ** 5000 - 1):
                room, moves = room_of_line(2, many)
                doubled = moves[place % many]
                self.assertEqual(room.double(1, place), doubled)
                self.assertEqual(room.waiting(1), moves + [doubled])
                self.assertEqual(room.hands[1].log.moves(), [])
                self.assertEqual(room.hands[1].clock, 0)

    def test_to_that_hand_alone(self):
        room, moves = room_of_line(3, 2)
        room.double(2, 0)
        self.assertEqual((room.waiting(0), room.waiting(1), room.waiting(2)), ([], moves, moves + moves[:1]))

    def test_a_double_of_a_double(self):
        room, (move,) = room_of_line(2, 1)
        room.double(1, 0)
        room.double(1, 1)
        self.assertEqual(room.waiting(1), [move] * 3)

    def test_a_move_is_carried_and_its_double_still_under_way(self):
        for place, left in ((0, [1, 2, 0]), (3, [0, 1, 2])):
            room, moves = room_of_line(2, 3)
            room.double(1, 0)
            self.assertEqual(room.carry(1, place), moves[0])
            self.assertEqual(room.waiting(1), [moves[at] for at in left])

    def test_a_double_that_is_carried_changes_nothing_at_the_hand(self):
        room, moves = room_of_line(2, 2)
        room.double(1, 0)
        room.carry(1, 0)
        room.carry(1, 0)
        ahead = state(room)[0]
        self.assertEqual(room.waiting(1), moves[:1])
        self.assertEqual(room.carry(1, 0), moves[0])
        self.assertEqual(state(room)[0], ahead)
        self.assertEqual(room.waiting(1), [])
        self.assertIsNone(room.double(1, 0))


class Strangers(RoomCase):
    def strangers(self, room):
        many = len(room.hands)
        return NO_NUMBERS + [many, many + 1, -many, GREATEST, GREATEST + 1, 10 ** 5000]

    def test_in_each_of_the_four(self):
        for many in (1, 2, 60):
            room, _ = room_of_line(many, 3)
            for thing in self.strangers(room):
                self.refused(room, NoHand, lambda: room.move(thing, 5, 0))
                self.refused(room, NoHand, lambda: room.waiting(thing))
                for place in (0, 1, -1):
                    self.refused(room, NoHand, lambda: room.carry(thing, place))
                    self.refused(room, NoHand, lambda: room.double(thing, place))

    def test_where_nothing_is_under_way(self):
        room = Room(3)
        for thing in self.strangers(room):
            self.refused(room, NoHand, lambda: room.carry(thing, 0))
            self.refused(room, NoHand, lambda: room.double(thing, 0))

    def test_ahead_of_no_move(self):
        room, _ = room_of_line(2, 3)
        for thing in self.strangers(room):
            for folder, under in ((0, 0), (5, -1), (True, None), ("5", GREATEST + 1), (None, 0)):
                self.refused(room, NoHand, lambda: room.move(thing, folder, under))


class Settling(RoomCase):
    def test_a_new_room(self):
        for many in (1, 2, 60):
            room = Room(many)
            self.assertIs(room.settle(), True)
            self.assertEqual({(hand.clock, hand.log.since) for hand in room.hands}, {(0, 1)})

    def test_where_something_is_under_way(self):
        room, _ = room_of_line(3, 1)
        for number in (1, 2):
            ahead = state(room)
            self.assertIs(room.settle(), False)
            self.assertEqual(state(room), ahead)
            room.carry(number, 0)
        self.assertIs(room.settle(), True)

    def test_where_a_double_alone_is_under_way(self):
        room, _ = room_of_line(2, 1)
        room.double(1, 0)
        room.carry(1, 0)
        ahead = state(room)
        self.assertIs(room.settle(), False)
        self.assertEqual(state(room), ahead)
        room.carry(1, 0)
        self.assertIs(room.settle(), True)

    def test_the_time_is_one_above_the_greatest_clock_and_all_are_let_go(self):
        room, moves = room_of_line(3, 4)
        room.move(2, 9, 3)
        carry_all(room)
        tree = gone_through(moves + [(1, 2, 9, 3)])[0]
        self.assertEqual([hand.clock for hand in room.hands], [4, 4, 4])
        for _ in range(2):
            self.assertIs(room.settle(), True)
            for hand in room.hands:
                self.assertEqual((hand.clock, hand.log.since, hand.log.moves(), hand.log.steps()), (4, 5, [], []))
                self.assertEqual(hand.tree(), tree)
        self.assertEqual(room.move(1, 9, 0), (5, 1, 9, 0))

    def test_a_room_of_one(self):
        room = Room(1)
        room.move(0, 5, 0)
        room.move(0, 6, 5)
        self.assertIs(room.settle(), True)
        hand = room.hands[0]
        self.assertEqual((hand.clock, hand.log.since, hand.log.moves(), hand.tree()), (2, 3, [], {5: 0, 6: 5}))

    def test_the_greatest_clock_may_be_any_hands(self):
        for number in range(4):
            room = Room(4)
            for _ in range(3):
                room.move(number, 5, 0)
            carry_all(room)
            self.assertIs(room.settle(), True)
            self.assertEqual([(hand.clock, hand.log.since) for hand in room.hands], [(3, 4)] * 4)


class Answers(RoomCase):
    def test_changing_waiting_changes_nothing_else(self):
        room, moves = room_of_line(2, 3)
        room.waiting(1).clear()
        room.waiting(1).append("x")
        room.waiting(0).append((9, 9, 9, 9))
        self.assertEqual(room.waiting(1), moves)
        self.assertEqual(room.waiting(0), [])
        self.assertIs(room.settle(), False)
        self.assertEqual(room.carry(1, 0), moves[0])

    def test_one_that_was_answered_stays_as_it_was(self):
        room, moves = room_of_line(2, 3)
        waiting, nothing, tree = room.waiting(1), room.waiting(0), room.hands[0].tree()
        room.move(0, 9, 0)
        room.move(1, 8, 0)
        room.double(1, 0)
        carry_all(room)
        room.settle()
        self.assertEqual(waiting, moves)
        self.assertEqual(nothing, [])
        self.assertEqual(tree, {1: 0, 2: 1, 3: 2})


class Doings(RoomCase):
    """Doings one behind another, beside lists that tell what each hand heard and what is under way."""

    def do(self, room, numbers, heard, under_way, most):
        number, place = numbers.below(len(room.hands)), numbers.below(41) - 20
        what = numbers.below(6)
        line = under_way[number]
        if what < 2 and max(map(len, under_way)) < most:
            move = room.move(number, 1 + numbers.below(8), numbers.below(9))
            heard[number].append(move)
            for other in range(len(room.hands)):
                if other != number:
                    under_way[other].append(move)
        elif what == 2 and len(line) < most:
            self.assertEqual(room.double(number, place), line[place % len(line)] if line else None)
            line.extend(line[place % len(line):][:1] if line else [])
        else:
            move = line.pop(place % len(line)) if line else None
            self.assertEqual(room.carry(number, place), move)
            heard[number].extend([move] if move is not None and move not in heard[number] else [])
        self.assertEqual(room.waiting(number), line)
        self.assertEqual(room.hands[number].tree(), gone_through(heard[number])[0])

    def run_room(self, many, turns, most, seed):
        room, numbers = Room(many), Numbers(seed)
        heard, under_way = [[] for _ in range(many)], [[] for _ in range(many)]
        for part in range(4):
            for _ in range(turns):
                self.do(room, numbers, heard, under_way, most)
            for number in numbers.mixed(range(many)):
                while (move := room.carry(number, numbers.below(100))) is not None:
                    heard[number].extend([move] if move not in heard[number] else [])
                under_way[number].clear()
            trees = [hand.tree() for hand in room.hands]
            self.assertEqual(trees, [gone_through(heard[0])[0]] * many)
            self.assertFalse(has_ring(trees[0]))
            if part != 1:
                time = max(hand.clock for hand in room.hands) + 1
                self.assertIs(room.settle(), True)
                self.assertEqual([hand.log.since for hand in room.hands], [time] * many)
                self.assertEqual([hand.log.moves() for hand in room.hands], [[]] * many)
                self.assertEqual([hand.tree() for hand in room.hands], trees)

    def test_small_rooms(self):
        for many in (1, 2, 3, 5):
            for seed in range(8):
                self.run_room(many, 60, 12, seed)

    def test_a_room_of_sixty(self):
        self.run_room(60, 40, 12, 1)

    def test_a_room_of_twenty(self):
        self.run_room(20, 80, 60, 2)


class Sizes(RoomCase):
    def test_sixty_under_way_and_somewhat_beyond(self):
        for many in (60, 70):
            room, moves = room_of_line(2, many)
            self.assertEqual(room.waiting(1), moves)
            while room.carry(1, 31) is not None:
                pass
            self.assertEqual(room.hands[1].tree(), {folder: folder - 1 for folder in range(1, many + 1)})
            self.assertIs(room.settle(), True)

    def test_twelve_under_way_in_a_room_of_sixty(self):
        room = Room(60)
        moves = [room.move(number, number + 1, number) for number in range(12)]
        self.assertEqual(room.waiting(59), moves)
        carry_all(room)
        self.assertEqual([hand.tree() for hand in room.hands], [{k: k - 1 for k in range(1, 13)}] * 60)
        self.assertIs(room.settle(), True)


if __name__ == "__main__":
    unittest.main()
