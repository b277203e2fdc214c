import itertools
import unittest

from loftstore.packing import packed

BLOCKS = [(0, 3, 1), (1, 8, 4), (2, 4, 2), (3, 0, 2), (4, 12, 1)]
LAID = [(1, 0, 4), (3, 4, 2), (2, 6, 2), (0, 8, 1), (4, 9, 1)]
FAR = 2 ** 300


def all_lets(start, span, ticket=0):
    # Every way to have blocks in use within a block; the tickets go from the least start to the greatest.
    found = [[], [(ticket, start, span)]]
    if span > 1:
        half = span // 2
        for low in all_lets(start, half, ticket):
            for high in all_lets(start + half, half, ticket + len(low)):
                if low or high:
                    found.append(low + high)
    return found


class Packed(unittest.TestCase):
    def test_no_blocks(self):
        self.assertEqual(packed([]), [])

    def test_one_block_goes_to_cell_nought(self):
        self.assertEqual(packed([(7, 12, 4)]), [(7, 0, 4)])
        self.assertEqual(packed([(7, 0, 1024)]), [(7, 0, 1024)])

    def test_greater_spans_go_ahead(self):
        self.assertEqual(packed([(0, 0, 1), (1, 2, 2), (2, 4, 4)]), [(2, 0, 4), (1, 4, 2), (0, 6, 1)])

    def test_those_of_one_span_keep_the_order_in_which_they_lay(self):
        self.assertEqual(packed([(0, 6, 2), (1, 2, 2), (2, 12, 2)]), [(1, 0, 2), (0, 2, 2), (2, 4, 2)])
        self.assertEqual(packed([(9, 3, 1), (4, 5, 1), (6, 0, 1)]), [(6, 0, 1), (9, 1, 1), (4, 2, 1)])

    def test_several_spans_handed_in_in_any_order(self):
        for blocks in itertools.permutations(BLOCKS):
            self.assertEqual(packed(list(blocks)), LAID)

    def test_packed_blocks_stay(self):
        self.assertEqual(packed(LAID), LAID)

    def test_numbers_of_many_figures(self):
        blocks = [(10 ** 99, 3 * FAR, FAR), (5, 0, FAR), (10 ** 99 + 1, 8 * FAR, 4 * FAR), (6, 4 * FAR, 1)]
        laid = [(10 ** 99 + 1, 0, 4 * FAR), (5, 4 * FAR, FAR), (10 ** 99, 5 * FAR, FAR), (6, 6 * FAR, 1)]
        self.assertEqual(packed(blocks), laid)

    def test_the_kinds_of_the_answer(self):
        for blocks in ([], BLOCKS):
            answer = packed(blocks)
            self.assertIs(type(answer), list)
            for block in answer:
                self.assertIs(type(block), tuple)
                self.assertEqual([type(part) for part in block], [int, int, int])

    def test_every_let_of_a_small_loft(self):
        for blocks in all_lets(0, 8):
            answer = packed(list(reversed(blocks)))
            end = 0
            for ticket, start, span in answer:
                self.assertEqual(start, end)
                self.assertEqual(start % span, 0)
                end += span
            order = sorted(blocks, key=lambda block: block[2], reverse=True)
            self.assertEqual([(ticket, span) for ticket, start, span in answer],
                             [(ticket, span) for ticket, start, span in order])


class NothingChangedOrKept(unittest.TestCase):
    def test_the_list_handed_in_is_as_it_was(self):
        blocks = list(BLOCKS)
        packed(blocks)
        self.assertEqual(blocks, BLOCKS)

    def test_changing_the_list_later_changes_no_answer(self):
        blocks = list(BLOCKS)
        answer = packed(blocks)
        blocks.clear()
        self.assertEqual(answer, LAID)

    def test_changing_an_answer_changes_nothing_else(self):
        for blocks in ([], list(BLOCKS), list(LAID)):
            kept = list(blocks)
            first = packed(blocks)
            told = list(first)
            first.append((9, 9, 1))
            self.assertEqual(blocks, kept)
            self.assertEqual(packed(blocks), told)


if __name__ == "__main__":
    unittest.main()
