"""Trees: points 1 to 5, with the sizes of point 16."""

import unittest
from itertools import product

from treemove.trees import below, children, closes, put, rows, way_up

GREATEST = 10 ** 60
# 2, 3 and 4 stand below the top; 6, 7 and 8 below 5, which stands nowhere.
SAMPLE = {2: 0, 3: 2, 4: 3, 10: 2, 6: 5, 7: 6, 8: 6}


def line(deepest):
    """The tree in which 1 stands under the top and each other one under the one before."""
    return {folder: folder - 1 for folder in range(1, deepest + 1)}


def has_ring(tree):
    for folder in tree:
        gone = [folder]
        while gone[-1] in tree:
            if tree[gone[-1]] in gone:
                return True
            gone.append(tree[gone[-1]])
    return False


def every_small_tree():
    """Every tree of the folders 1 to 4, also those in which some of them stand nowhere."""
    for unders in product((None, 0, 1, 2, 3, 4), repeat=4):
        tree = {folder: under for folder, under in zip((1, 2, 3, 4), unders) if under is not None}
        if not has_ring(tree):
            yield tree


def pairs_below(tree):
    """Every (folder, other) with the folder below the other, straight or by one between."""
    pairs = set(tree.items())
    while True:
        more = {(low, high) for low, mid in pairs for again, high in pairs if mid == again}
        if more <= pairs:
            return pairs
        pairs |= more


def rows_by_depth(tree, under=0, depth=1):
    found = []
    for folder in sorted(tree):
        if tree[folder] == under:
            found += [(depth, folder)] + rows_by_depth(tree, folder, depth + 1)
    return found


class WayUp(unittest.TestCase):
    def test_from_the_top(self):
        for tree in ({}, {1: 0}, SAMPLE, line(80)):
            self.assertEqual(way_up(tree, 0), [0])

    def test_from_one_that_stands_nowhere(self):
        self.assertEqual(way_up({}, 1), [1])
        self.assertEqual(way_up(SAMPLE, 99), [99])
        self.assertEqual(way_up(SAMPLE, 5), [5])
        self.assertEqual(way_up(SAMPLE, GREATEST), [GREATEST])

    def test_to_the_top(self):
        self.assertEqual(way_up({1: 0}, 1), [1, 0])
        self.assertEqual(way_up(SAMPLE, 4), [4, 3, 2, 0])
        self.assertEqual(way_up(SAMPLE, 10), [10, 2, 0])

    def test_to_one_that_stands_nowhere(self):
        self.assertEqual(way_up(SAMPLE, 7), [7, 6, 5])
        self.assertEqual(way_up({1: 2}, 1), [1, 2])

    def test_eighty_folders(self):
        self.assertEqual(way_up(line(80), 80), list(range(80, -1, -1)))
        nowhere = {folder: folder + 1 for folder in range(1, 80)}
        self.assertEqual(way_up(nowhere, 1), list(range(1, 81)))

    def test_somewhat_beyond_eighty_is_no_error(self):
        self.assertEqual(len(way_up(line(90), 90)), 91)

    def test_many_beside_each_other(self):
        tree = {folder: 0 for folder in range(1, 3001)}
        self.assertEqual(way_up(tree, 3000), [3000, 0])

    def test_numbers_far_apart(self):
        tree = {GREATEST: 3, 3: 10 ** 30, 10 ** 30: GREATEST - 1, GREATEST - 1: 0}
        self.assertEqual(way_up(tree, GREATEST), [GREATEST, 3, 10 ** 30, GREATEST - 1, 0])

    def test_the_list_is_the_askers_own(self):
        tree = dict(SAMPLE)
        way = way_up(tree, 4)
        way.append(17)
        way[0] = 18
        self.assertEqual(way_up(tree, 4), [4, 3, 2, 0])
        way_up(tree, 4).clear()
        self.assertEqual(way, [18, 3, 2, 0, 17])
        self.assertEqual(tree, SAMPLE)


class Below(unittest.TestCase):
    def test_straight_and_further_below(self):
        for other in (3, 2, 0):
            self.assertIs(below(SAMPLE, 4, other), True)
        for other in (6, 5):
            self.assertIs(below(SAMPLE, 7, other), True)

    def test_not_below_what_is_beside_or_below_it(self):
        for folder, other in ((2, 3), (2, 4), (4, 10), (10, 4), (7, 8), (4, 5), (7, 2), (4, 99)):
            self.assertIs(below(SAMPLE, folder, other), False)

    def test_nothing_stands_below_itself(self):
        for folder in (0, 2, 4, 5, 7, 99):
            self.assertIs(below(SAMPLE, folder, folder), False)
        self.assertIs(below({}, 1, 1), False)

    def test_the_top_stands_below_nothing(self):
        for other in (0, 1, 2, 4, 5, 99, GREATEST):
            self.assertIs(below(SAMPLE, 0, other), False)
            self.assertIs(below({}, 0, other), False)

    def test_what_stands_nowhere_is_below_nothing(self):
        for folder, other in product((5, 99), (0, 2, 5, 6, 99)):
            self.assertIs(below(SAMPLE, folder, other), False)

    def test_below_what_stands_nowhere_is_not_below_the_top(self):
        self.assertIs(below(SAMPLE, 7, 0), False)
        self.assertIs(below(SAMPLE, 6, 0), False)

    def test_eighty_folders(self):
        tree = line(80)
        self.assertIs(below(tree, 80, 0), True)
        self.assertIs(below(tree, 80, 1), True)
        self.assertIs(below(tree, 1, 80), False)

    def test_great_numbers(self):
        tree = {GREATEST: GREATEST - 1, GREATEST - 1: 0}
        self.assertIs(below(tree, GREATEST, GREATEST - 1), True)
        self.assertIs(below(tree, GREATEST - 1, GREATEST), False)

    def test_every_small_tree(self):
        for tree in every_small_tree():
            pairs = pairs_below(tree)
            before = dict(tree)
            for folder, other in product(range(6), repeat=2):
                self.assertIs(below(tree, folder, other), (folder, other) in pairs, (tree, folder, other))
            self.assertEqual(tree, before)


class Closes(unittest.TestCase):
    def test_under_itself(self):
        for folder in (2, 4, 5, 7, 99, GREATEST):
            self.assertIs(closes(SAMPLE, folder, folder), True)
            self.assertIs(closes({}, folder, folder), True)

    def test_under_one_below_it(self):
        for folder, under in ((2, 3), (2, 4), (3, 4), (5, 6), (5, 8), (6, 7)):
            self.assertIs(closes(SAMPLE, folder, under), True)

    def test_under_one_above_or_beside_it(self):
        for folder, under in ((3, 2), (4, 2), (4, 10), (10, 4), (7, 8), (7, 5), (4, 7), (7, 4)):
            self.assertIs(closes(SAMPLE, folder, under), False)

    def test_under_the_top(self):
        for folder in (2, 4, 5, 7, 99):
            self.assertIs(closes(SAMPLE, folder, 0), False)
        self.assertIs(closes({}, 1, 0), False)

    def test_under_one_that_stands_nowhere(self):
        for folder in (2, 4, 99):
            self.assertIs(closes(SAMPLE, folder, 5), False)
            self.assertIs(closes(SAMPLE, folder, 77), False)
        self.assertIs(closes({}, 1, 2), False)

    def test_eighty_folders(self):
        tree = line(79)
        self.assertIs(closes(tree, 1, 79), True)
        self.assertIs(closes(tree, 80, 79), False)

    def test_every_small_tree(self):
        for tree in every_small_tree():
            pairs = pairs_below(tree)
            before = dict(tree)
            for folder, under in product(range(1, 6), range(6)):
                expected = folder == under or (under, folder) in pairs
                self.assertIs(closes(tree, folder, under), expected, (tree, folder, under))
            self.assertEqual(tree, before)


class Put(unittest.TestCase):
    def test_one_that_stood_nowhere(self):
        self.assertEqual(put({}, 1, 0), {1: 0})
        self.assertEqual(put({}, 1, 2), {1: 2})
        self.assertEqual(put(SAMPLE, 99, 4), {**SAMPLE, 99: 4})
        self.assertEqual(put(SAMPLE, 5, 4), {**SAMPLE, 5: 4})

    def test_one_that_stood_elsewhere(self):
        self.assertEqual(put(SAMPLE, 3, 0), {**SAMPLE, 3: 0})
        self.assertEqual(put(SAMPLE, 3, 7), {**SAMPLE, 3: 7})
        self.assertEqual(put(SAMPLE, 6, 88), {**SAMPLE, 6: 88})

    def test_where_it_stands_already(self):
        self.assertEqual(put(SAMPLE, 3, 2), SAMPLE)

    def test_a_ring_is_not_closed(self):
        for folder, under in ((2, 2), (2, 3), (2, 4), (5, 7), (99, 99)):
            self.assertEqual(put(SAMPLE, folder, under), SAMPLE)
        self.assertEqual(put({}, 1, 1), {})

    def test_what_stands_below_comes_along(self):
        self.assertEqual(way_up(put(SAMPLE, 3, 7), 4), [4, 3, 7, 6, 5])

    def test_great_numbers(self):
        self.assertEqual(put({}, GREATEST, GREATEST - 1), {GREATEST: GREATEST - 1})
        self.assertEqual(put({GREATEST: 1}, 1, GREATEST), {GREATEST: 1})

    def test_eighty_folders(self):
        self.assertEqual(put(line(79), 80, 79), line(80))
        self.assertEqual(put(line(80), 1, 80), line(80))

    def test_the_tree_handed_in_stays_and_the_one_answered_is_its_own(self):
        for folder, under in ((99, 4), (3, 0), (3, 2), (2, 4), (2, 2)):
            tree = dict(SAMPLE)
            made = put(tree, folder, under)
            self.assertEqual(tree, SAMPLE)
            self.assertIsNot(made, tree)
            kept = dict(made)
            made[55] = 0
            made.pop(4)
            self.assertEqual(tree, SAMPLE)
            again = put(tree, folder, under)
            self.assertEqual(again, kept)
            tree.clear()
            self.assertEqual(again, kept)

    def test_every_small_tree(self):
        for tree in every_small_tree():
            before = dict(tree)
            for folder, under in product(range(1, 6), range(6)):
                expected = {**tree, folder: under}
                if has_ring(expected):
                    expected = before
                made = put(tree, folder, under)
                self.assertIs(type(made), dict)
                self.assertEqual(made, expected, (tree, folder, under))
                self.assertIsNot(made, tree)
                self.assertEqual(tree, before)


class Children(unittest.TestCase):
    def test_rising_whatever_the_order_in_the_dict(self):
        tree = {10: 1, 9: 1, 100: 1, 2: 1, GREATEST: 1, 1: 0, 5: 0}
        self.assertEqual(children(tree, 1), [2, 9, 10, 100, GREATEST])
        self.assertEqual(children(dict(reversed(list(tree.items()))), 1), [2, 9, 10, 100, GREATEST])

    def test_of_the_top(self):
        self.assertEqual(children(SAMPLE, 0), [2])
        self.assertEqual(children({7: 0, 3: 0, 5: 3}, 0), [3, 7])

    def test_only_those_straight_under_it(self):
        self.assertEqual(children(SAMPLE, 2), [3, 10])

    def test_of_one_that_stands_nowhere(self):
        self.assertEqual(children(SAMPLE, 5), [6])
        self.assertEqual(children(SAMPLE, 99), [])

    def test_none(self):
        self.assertEqual(children({}, 0), [])
        self.assertEqual(children({}, 1), [])
        self.assertEqual(children(SAMPLE, 4), [])

    def test_many_beside_each_other(self):
        tree = {folder: 0 for folder in range(3000, 0, -1)}
        self.assertEqual(children(tree, 0), list(range(1, 3001)))

    def test_the_list_is_the_askers_own(self):
        tree = dict(SAMPLE)
        found = children(tree, 2)
        found.append(17)
        self.assertEqual(children(tree, 2), [3, 10])
        self.assertEqual(found, [3, 10, 17])
        self.assertEqual(tree, SAMPLE)
        children(tree, 4).append(17)
        self.assertEqual(children(tree, 4), [])

    def test_every_small_tree(self):
        for tree in every_small_tree():
            before = dict(tree)
            for folder in range(6):
                expected = [child for child in (1, 2, 3, 4) if tree.get(child) == folder]
                self.assertEqual(children(tree, folder), expected)
            self.assertEqual(tree, before)


class Rows(unittest.TestCase):
    def test_the_order_and_the_depths(self):
        self.assertEqual(rows(SAMPLE), [(1, 2), (2, 3), (3, 4), (2, 10)])
        tree = {9: 0, 10: 0, 2: 9, 11: 9, 1: 11, 3: 10, 30: 2}
        expected = [(1, 9), (2, 2), (3, 30), (2, 11), (3, 1), (1, 10), (2, 3)]
        self.assertEqual(rows(tree), expected)
        self.assertEqual(rows(dict(reversed(list(tree.items())))), expected)

    def test_each_row_is_a_pair(self):
        for row in rows(SAMPLE):
            self.assertIs(type(row), tuple)

    def test_an_empty_tree(self):
        self.assertEqual(rows({}), [])

    def test_none_below_the_top(self):
        self.assertEqual(rows({1: 2, 3: 2, 2: 4}), [])

    def test_eighty_folders(self):
        self.assertEqual(rows(line(80)), [(folder, folder) for folder in range(1, 81)])
        turned = {folder: (folder + 1) % 81 for folder in range(1, 81)}
        self.assertEqual(rows(turned), [(81 - folder, folder) for folder in range(80, 0, -1)])

    def test_many_beside_each_other(self):
        tree = {folder: 0 for folder in range(3000, 0, -1)}
        self.assertEqual(rows(tree), [(1, folder) for folder in range(1, 3001)])

    def test_numbers_far_apart(self):
        tree = {GREATEST: 0, GREATEST - 1: 0, 1: GREATEST, 10 ** 30: GREATEST, 5: 0}
        self.assertEqual(rows(tree), [(1, 5), (1, GREATEST - 1), (1, GREATEST), (2, 1), (2, 10 ** 30)])

    def test_the_list_is_the_askers_own(self):
        tree = dict(SAMPLE)
        found = rows(tree)
        found.append((1, 17))
        found[0] = (1, 18)
        self.assertEqual(rows(tree), [(1, 2), (2, 3), (3, 4), (2, 10)])
        self.assertEqual(found, [(1, 18), (2, 3), (3, 4), (2, 10), (1, 17)])
        self.assertEqual(tree, SAMPLE)
        rows({}).append((1, 17))
        self.assertEqual(rows({}), [])

    def test_every_small_tree(self):
        for tree in every_small_tree():
            before = dict(tree)
            self.assertEqual(rows(tree), rows_by_depth(tree), tree)
            self.assertEqual(tree, before)


if __name__ == "__main__":
    unittest.main()
