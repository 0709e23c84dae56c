"""The errors and what each stands under."""

import unittest

from treemove.errors import Clash, NoHand, NoMove, TooLate, TreeError

REFUSALS = [NoMove, TooLate, Clash, NoHand]


class Errors(unittest.TestCase):
    def test_any_refusal_is_a_value_error(self):
        self.assertEqual(TreeError.__bases__, (ValueError,))

    def test_each_stands_straight_under_tree_error(self):
        for refusal in REFUSALS:
            with self.subTest(refusal=refusal.__name__):
                self.assertEqual(refusal.__bases__, (TreeError,))

    def test_none_stands_under_another(self):
        for one in REFUSALS:
            for other in REFUSALS:
                self.assertEqual(issubclass(one, other), one is other)

    def test_each_is_raised_with_words_and_caught_by_its_three_names(self):
        for refusal in [TreeError, *REFUSALS]:
            for name in (refusal, TreeError, ValueError):
                with self.subTest(refusal=refusal.__name__, name=name.__name__):
                    with self.assertRaises(name) as caught:
                        raise refusal("the words")
                    self.assertEqual(str(caught.exception), "the words")


if __name__ == "__main__":
    unittest.main()
