import unittest

from loftstore.errors import LoftError, NoHeight, NoNeed, NoPlace, NoRoom, NoTicket
from loftstore.free import best_of, given_back, taken

FREE = "free"
USED = "used"
FAR = 2 ** 320


def trees(span):
    # Every way a block can be let: free, in use, or halved (two free halves would have been joined).
    found = [FREE, USED]
    if span > 1:
        halves = trees(span // 2)
        found += [(low, high) for low in halves for high in halves if (low, high) != (FREE, FREE)]
    return found


def blocks_of(tree, kind, start, span):
    if tree == kind:
        return [(start, span)]
    if tree in (FREE, USED):
        return []
    half = span // 2
    return blocks_of(tree[0], kind, start, half) + blocks_of(tree[1], kind, start + half, half)


def freed(tree, begin, start, span):
    # The tree behind the block in use that begins at `begin` became free.
    if tree == USED:
        return FREE
    half = span // 2
    low, high = tree
    if begin < start + half:
        low = freed(low, begin, start, half)
    else:
        high = freed(high, begin, start + half, half)
    return FREE if (low, high) == (FREE, FREE) else (low, high)


def halved(block, span):
    # The free blocks that are left of a block of which a lower part of this span is taken.
    start, size = block
    if size == span:
        return []
    half = size // 2
    return halved((start, half), span) + [(start + half, half)]


LOFTS = [(tree, 8) for tree in trees(8)]


class BestOf(unittest.TestCase):
    def test_a_block_of_just_the_span(self):
        self.assertEqual(best_of([(0, 4), (6, 2), (9, 1)], 2), (6, 2))

    def test_the_least_span_goes_ahead_of_the_least_start(self):
        self.assertEqual(best_of([(0, 8), (8, 4), (14, 2)], 1), (14, 2))
        self.assertEqual(best_of([(0, 8), (8, 4), (14, 2)], 4), (8, 4))
        self.assertEqual(best_of([(0, 1), (4, 4), (8, 2)], 2), (8, 2))

    def test_of_several_of_one_span_the_least_start(self):
        self.assertEqual(best_of([(2, 2), (4, 2), (8, 2)], 2), (2, 2))
        self.assertEqual(best_of([(0, 4), (6, 2), (8, 2), (12, 4)], 1), (6, 2))
        self.assertEqual(best_of([(1, 1), (4, 4), (8, 4)], 2), (4, 4))

    def test_none_is_great_enough(self):
        self.assertIsNone(best_of([], 1))
        self.assertIsNone(best_of([(0, 4), (6, 2)], 8))
        self.assertIsNone(best_of([(1, 1), (2, 1)], 2))

    def test_it_is_told_before_it_is_halved(self):
        self.assertEqual(best_of([(0, 1024)], 1), (0, 1024))

    def test_numbers_of_many_figures(self):
        free = [(0, FAR), (3 * FAR, FAR), (4 * FAR, 4 * FAR)]
        self.assertEqual(best_of(free, 1), (0, FAR))
        self.assertEqual(best_of(free, 2 * FAR), (4 * FAR, 4 * FAR))
        self.assertIsNone(best_of(free, 8 * FAR))

    def test_the_answer_is_a_pair(self):
        self.assertIs(type(best_of([(0, 2)], 1)), tuple)

    def test_every_small_loft(self):
        for tree, size in LOFTS:
            free = blocks_of(tree, FREE, 0, size)
            for span in (1, 2, 4, 8, 16):
                enough = [(block[1], block[0]) for block in free if block[1] >= span]
                expected = (min(enough)[1], min(enough)[0]) if enough else None
                self.assertEqual(best_of(free, span), expected, (free, span))


class Taken(unittest.TestCase):
    def test_a_block_of_just_the_span(self):
        self.assertEqual(taken([(0, 4), (6, 2), (9, 1)], 2), (6, [(0, 4), (9, 1)]))
        self.assertEqual(taken([(0, 8)], 8), (0, []))

    def test_halving_once(self):
        self.assertEqual(taken([(8, 4)], 2), (8, [(10, 2)]))

    def test_halving_several_times(self):
        self.assertEqual(taken([(0, 8)], 1), (0, [(1, 1), (2, 2), (4, 4)]))
        self.assertEqual(taken([(0, 1024)], 256), (0, [(256, 256), (512, 512)]))

    def test_the_halves_come_to_their_places_in_the_list(self):
        self.assertEqual(taken([(1, 1), (4, 4), (8, 8)], 2), (4, [(1, 1), (6, 2), (8, 8)]))
        self.assertEqual(taken([(0, 8), (8, 4), (14, 2)], 1), (14, [(0, 8), (8, 4), (15, 1)]))

    def test_the_least_span_goes_ahead_of_the_least_start(self):
        self.assertEqual(taken([(0, 8), (12, 4)], 4), (12, [(0, 8)]))

    def test_of_several_of_one_span_the_least_start(self):
        self.assertEqual(taken([(2, 2), (4, 2), (8, 2)], 2), (2, [(4, 2), (8, 2)]))
        self.assertEqual(taken([(2, 2), (4, 2), (8, 2)], 1), (2, [(3, 1), (4, 2), (8, 2)]))

    def test_numbers_of_many_figures(self):
        self.assertEqual(taken([(4 * FAR, 4 * FAR)], FAR), (4 * FAR, [(5 * FAR, FAR), (6 * FAR, 2 * FAR)]))
        start, free = taken([(0, FAR)], 1)
        self.assertEqual(start, 0)
        self.assertEqual(free, [(2 ** k, 2 ** k) for k in range(320)])

    def test_refused_where_none_is_great_enough(self):
        for free, span in (([], 1), ([(0, 4), (6, 2)], 8), ([(1, 1), (2, 1)], 2), ([(0, FAR)], 2 * FAR)):
            for refusal in (NoRoom, LoftError, ValueError):
                with self.subTest(free=free, span=span, refusal=refusal):
                    with self.assertRaises(refusal):
                        taken(free, span)

    def test_the_refusal_is_no_other_one(self):
        with self.assertRaises(NoRoom) as caught:
            taken([(0, 1)], 2)
        self.assertNotIsInstance(caught.exception, (NoHeight, NoTicket, NoNeed, NoPlace))

    def test_it_packs_nothing_where_the_free_cells_together_are_enough(self):
        free = [(1, 1), (3, 1), (5, 1), (7, 1)]
        with self.assertRaises(NoRoom):
            taken(free, 2)
        self.assertEqual(free, [(1, 1), (3, 1), (5, 1), (7, 1)])

    def test_the_kinds_of_the_answer(self):
        for span in (1, 4):
            answer = taken([(0, 4), (8, 4)], span)
            self.assertIs(type(answer), tuple)
            self.assertEqual(len(answer), 2)
            self.assertIs(type(answer[0]), int)
            self.assertIs(type(answer[1]), list)
            self.assertEqual({type(block) for block in answer[1]}, {tuple})

    def test_every_small_loft(self):
        for tree, size in LOFTS:
            free = blocks_of(tree, FREE, 0, size)
            for span in (1, 2, 4, 8):
                best = best_of(free, span)
                if best is None:
                    with self.assertRaises(NoRoom):
                        taken(free, span)
                else:
                    rest = [block for block in free if block != best] + halved(best, span)
                    self.assertEqual(taken(free, span), (best[0], sorted(rest)), (free, span))


class GivenBack(unittest.TestCase):
    def test_to_an_empty_list(self):
        self.assertEqual(given_back([], 4, 2), [(4, 2)])
        self.assertEqual(given_back([], 0, 8), [(0, 8)])

    def test_no_join_keeps_the_order(self):
        self.assertEqual(given_back([(4, 4)], 0, 1), [(0, 1), (4, 4)])
        self.assertEqual(given_back([(0, 1), (8, 8)], 4, 2), [(0, 1), (4, 2), (8, 8)])
        self.assertEqual(given_back([(0, 1), (4, 2)], 8, 8), [(0, 1), (4, 2), (8, 8)])

    def test_one_join_with_the_mate_above(self):
        self.assertEqual(given_back([(6, 2)], 4, 2), [(4, 4)])

    def test_one_join_with_the_mate_below(self):
        self.assertEqual(given_back([(4, 2)], 6, 2), [(4, 4)])

    def test_one_join_among_others_keeps_the_order(self):
        self.assertEqual(given_back([(0, 2), (5, 1), (8, 4)], 4, 1), [(0, 2), (4, 2), (8, 4)])
        self.assertEqual(given_back([(0, 2), (4, 1), (8, 4)], 5, 1), [(0, 2), (4, 2), (8, 4)])

    def test_several_joins_one_after_another(self):
        self.assertEqual(given_back([(1, 1), (2, 2), (4, 4)], 0, 1), [(0, 8)])
        self.assertEqual(given_back([(0, 4), (4, 2), (6, 1)], 7, 1), [(0, 8)])
        self.assertEqual(given_back([(0, 2), (3, 1), (4, 4)], 2, 1), [(0, 8)])
        self.assertEqual(given_back([(0, 4), (4, 1), (6, 2), (12, 4)], 5, 1), [(0, 8), (12, 4)])

    def test_the_joins_end_where_a_mate_is_missing(self):
        self.assertEqual(given_back([(1, 1), (4, 4)], 0, 1), [(0, 2), (4, 4)])

    def test_a_neighbour_that_is_no_mate(self):
        self.assertEqual(given_back([(4, 2)], 2, 2), [(2, 2), (4, 2)])
        self.assertEqual(given_back([(2, 2)], 4, 2), [(2, 2), (4, 2)])
        self.assertEqual(given_back([(2, 1)], 1, 1), [(1, 1), (2, 1)])

    def test_a_neighbour_of_another_span_is_no_mate(self):
        self.assertEqual(given_back([(6, 1)], 4, 2), [(4, 2), (6, 1)])
        self.assertEqual(given_back([(4, 1)], 6, 2), [(4, 1), (6, 2)])
        self.assertEqual(given_back([(2, 2)], 0, 1), [(0, 1), (2, 2)])

    def test_numbers_of_many_figures(self):
        self.assertEqual(given_back([(5 * FAR, FAR), (6 * FAR, 2 * FAR)], 4 * FAR, FAR), [(4 * FAR, 4 * FAR)])
        self.assertEqual(given_back([(2 ** k, 2 ** k) for k in range(320)], 0, 1), [(0, FAR)])
        self.assertEqual(given_back([(0, FAR)], FAR + 1, 1), [(0, FAR), (FAR + 1, 1)])

    def test_the_kinds_of_the_answer(self):
        for free in ([], [(6, 2)], [(0, 1)]):
            answer = given_back(free, 4, 2)
            self.assertIs(type(answer), list)
            self.assertEqual({type(block) for block in answer}, {tuple})

    def test_every_small_loft(self):
        for tree, size in LOFTS:
            free = blocks_of(tree, FREE, 0, size)
            for start, span in blocks_of(tree, USED, 0, size):
                expected = blocks_of(freed(tree, start, 0, size), FREE, 0, size)
                self.assertEqual(given_back(free, start, span), expected, (free, start, span))

    def test_what_was_taken_and_comes_back_leaves_the_list_as_it_was(self):
        for tree, size in LOFTS:
            free = blocks_of(tree, FREE, 0, size)
            for span in (1, 2, 4, 8):
                if best_of(free, span) is not None:
                    start, rest = taken(free, span)
                    self.assertEqual(given_back(rest, start, span), free)


class NothingChangedOrKept(unittest.TestCase):
    def setUp(self):
        self.calls = (
            lambda free: best_of(free, 2),
            lambda free: best_of(free, 64),
            lambda free: taken(free, 1)[1],
            lambda free: taken(free, 2)[1],
            lambda free: taken(free, 8)[1],
            lambda free: given_back(free, 0, 1),
            lambda free: given_back(free, 6, 2),
            lambda free: given_back(free, 7, 1),
        )
        self.start_list = [(1, 1), (4, 2), (16, 16)]

    def test_the_list_handed_in_is_the_same_behind_each_call(self):
        for number, call in enumerate(self.calls):
            with self.subTest(call=number):
                free = list(self.start_list)
                call(free)
                self.assertEqual(free, self.start_list)

    def test_the_list_handed_in_is_the_same_behind_a_refusal(self):
        free = list(self.start_list)
        with self.assertRaises(NoRoom):
            taken(free, 32)
        self.assertEqual(free, self.start_list)

    def test_changing_the_input_later_changes_no_answer(self):
        for number, call in enumerate(self.calls):
            with self.subTest(call=number):
                free = list(self.start_list)
                answer = call(free)
                kept = list(answer) if answer is not None else None
                free.clear()
                self.assertEqual(list(answer) if answer is not None else None, kept)

    def test_changing_an_answer_changes_no_input_and_no_later_answer(self):
        for number, call in enumerate(self.calls):
            with self.subTest(call=number):
                free = list(self.start_list)
                answer = call(free)
                if isinstance(answer, list):
                    kept = list(answer)
                    answer.clear()
                    self.assertEqual(free, self.start_list)
                    self.assertEqual(call(free), kept)

    def test_a_later_call_changes_no_earlier_answer(self):
        first = given_back([], 0, 1)
        second = given_back(first, 1, 1)
        start, third = taken(second, 1)
        self.assertEqual((first, second, start, third), ([(0, 1)], [(0, 2)], 0, [(1, 1)]))


if __name__ == "__main__":
    unittest.main()
