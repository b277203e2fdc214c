import unittest

from loftstore.spans import cut_up, mate_of, span_for

# 10 ** 100 has 101 figures: somewhat beyond the bound of point 1, which refuses nothing.
HUNDRED_FIGURES = 10 ** 100 - 1
SPANS = [2 ** k for k in range(340)]


class SpanFor(unittest.TestCase):
    def test_one_needs_the_span_one(self):
        self.assertEqual(span_for(1), 1)

    def test_small_numbers(self):
        expected = [1, 2, 4, 4, 8, 8, 8, 8, 16]
        self.assertEqual([span_for(many) for many in range(1, 10)], expected)

    def test_at_each_span(self):
        for span in SPANS:
            self.assertEqual(span_for(span), span)

    def test_one_below_a_span(self):
        for span in SPANS[2:]:
            self.assertEqual(span_for(span - 1), span)

    def test_one_above_a_span(self):
        for span in SPANS:
            self.assertEqual(span_for(span + 1), 2 * span)

    def test_numbers_of_many_figures(self):
        for many in (HUNDRED_FIGURES, 10 ** 99, 7 * 10 ** 60 + 3, 10 ** 110):
            span = span_for(many)
            self.assertIn(span, [2 ** k for k in range(400)])
            self.assertGreaterEqual(span, many)
            self.assertLess(span // 2, many)

    def test_the_answer_is_a_whole_number(self):
        for many in (1, 2, 3, HUNDRED_FIGURES):
            self.assertIs(type(span_for(many)), int)


class MateOf(unittest.TestCase):
    def test_the_examples_of_point_4(self):
        self.assertEqual(mate_of(4, 2), 6)
        self.assertEqual(mate_of(6, 2), 4)
        self.assertEqual(mate_of(4, 4), 0)

    def test_single_cells(self):
        self.assertEqual([mate_of(cell, 1) for cell in range(8)], [1, 0, 3, 2, 5, 4, 7, 6])

    def test_the_block_of_a_whole_loft(self):
        for height in range(12):
            self.assertEqual(mate_of(0, 2 ** height), 2 ** height)
            self.assertEqual(mate_of(2 ** height, 2 ** height), 0)

    def test_the_halves_of_every_block_are_mates(self):
        for half in SPANS[:8]:
            for whole in range(0, 1024, 2 * half):
                self.assertEqual(mate_of(whole, half), whole + half)
                self.assertEqual(mate_of(whole + half, half), whole)

    def test_blocks_that_begin_very_far_on(self):
        for half in (1, 2, 1024, 2 ** 90, 2 ** 330):
            for turn in (10 ** 40, 10 ** 40 + 1, HUNDRED_FIGURES // (2 * half)):
                whole = turn * 2 * half
                self.assertEqual(mate_of(whole, half), whole + half)
                self.assertEqual(mate_of(whole + half, half), whole)

    def test_the_answer_is_a_whole_number(self):
        for start, span in ((0, 1), (1, 1), (2 ** 330, 2 ** 330)):
            self.assertIs(type(mate_of(start, span)), int)


class CutUp(unittest.TestCase):
    def check(self, start, stop):
        blocks = cut_up(start, stop)
        self.assertIs(type(blocks), list)
        begin = start
        for block in blocks:
            self.assertIs(type(block), tuple)
            self.assertEqual(len(block), 2)
            self.assertEqual(block[0], begin)
            span = block[1]
            self.assertEqual(span & (span - 1), 0)
            self.assertGreaterEqual(span, 1)
            self.assertEqual(begin % span, 0)
            self.assertLessEqual(begin + span, stop)
            self.assertTrue(begin % (2 * span) != 0 or begin + 2 * span > stop, (start, stop, block))
            begin = begin + span
        self.assertEqual(begin, max(start, stop))

    def test_the_example_of_point_5(self):
        self.assertEqual(cut_up(3, 11), [(3, 1), (4, 4), (8, 2), (10, 1)])

    def test_from_cell_nought_to_a_span(self):
        for span in SPANS:
            self.assertEqual(cut_up(0, span), [(0, span)])

    def test_from_cell_nought_to_another_number(self):
        self.assertEqual(cut_up(0, 3), [(0, 2), (2, 1)])
        self.assertEqual(cut_up(0, 7), [(0, 4), (4, 2), (6, 1)])
        self.assertEqual(cut_up(0, 11), [(0, 8), (8, 2), (10, 1)])

    def test_up_to_the_end_of_a_loft(self):
        self.assertEqual(cut_up(1, 8), [(1, 1), (2, 2), (4, 4)])
        self.assertEqual(cut_up(4, 8), [(4, 4)])
        self.assertEqual(cut_up(6, 8), [(6, 2)])

    def test_a_stretch_that_begins_at_a_greater_multiple_than_it_can_use(self):
        self.assertEqual(cut_up(8, 11), [(8, 2), (10, 1)])

    def test_two_blocks_of_one_span_that_are_no_mates(self):
        self.assertEqual(cut_up(2, 6), [(2, 2), (4, 2)])
        self.assertEqual(cut_up(1, 3), [(1, 1), (2, 1)])

    def test_one_cell(self):
        for start in (0, 1, 2, 3, 4, 1023, 1024, HUNDRED_FIGURES):
            self.assertEqual(cut_up(start, start + 1), [(start, 1)])

    def test_stop_at_start_has_no_blocks(self):
        for start in (0, 1, 8, HUNDRED_FIGURES):
            self.assertEqual(cut_up(start, start), [])

    def test_stop_below_start_has_no_blocks(self):
        for start, stop in ((1, 0), (8, 4), (8, 7), (HUNDRED_FIGURES, 0)):
            self.assertEqual(cut_up(start, stop), [])

    def test_every_small_stretch_keeps_to_point_5(self):
        for start in range(66):
            for stop in range(66):
                self.check(start, stop)

    def test_stretches_with_many_figures_keep_to_point_5(self):
        self.check(0, HUNDRED_FIGURES)
        self.check(1, HUNDRED_FIGURES)
        self.check(3 ** 120, 3 ** 209)
        self.check(10 ** 99, 10 ** 99 + 1000)
        self.check(2 ** 330, 2 ** 332)
        self.check(12345, 10 ** 110)

    def test_changing_an_answer_changes_no_other(self):
        first = cut_up(3, 11)
        first.append((11, 1))
        first[0] = (0, 1)
        self.assertEqual(cut_up(3, 11), [(3, 1), (4, 4), (8, 2), (10, 1)])
        empty = cut_up(5, 5)
        empty.append((5, 1))
        self.assertEqual(cut_up(5, 5), [])
        self.assertEqual(first[1:4], [(4, 4), (8, 2), (10, 1)])


if __name__ == "__main__":
    unittest.main()
