import unittest

from loftstore import errors

REFUSALS = ("NoHeight", "NoTicket", "NoNeed", "NoPlace", "NoRoom")


class ErrorClasses(unittest.TestCase):
    def test_loft_error_stands_under_value_error(self):
        self.assertEqual(errors.LoftError.__bases__, (ValueError,))

    def test_each_refusal_stands_straight_under_loft_error(self):
        for name in REFUSALS:
            with self.subTest(name=name):
                self.assertEqual(getattr(errors, name).__bases__, (errors.LoftError,))

    def test_the_classes_bear_their_names(self):
        for name in REFUSALS + ("LoftError",):
            with self.subTest(name=name):
                self.assertEqual(getattr(errors, name).__name__, name)

    def test_a_refusal_is_caught_by_its_own_name_and_both_above(self):
        for name in REFUSALS:
            for caught in (getattr(errors, name), errors.LoftError, ValueError):
                with self.subTest(name=name, caught=caught):
                    with self.assertRaises(caught):
                        raise getattr(errors, name)("some words")

    def test_no_refusal_is_another_one(self):
        for name in REFUSALS:
            for other in REFUSALS:
                with self.subTest(name=name, other=other):
                    under = issubclass(getattr(errors, name), getattr(errors, other))
                    self.assertEqual(under, name == other)


if __name__ == "__main__":
    unittest.main()
