import copy
import unittest

from loftstore.day import answers, behind, plans
from loftstore.errors import LoftError, NoHeight

GREAT = 10 ** 100 - 1
CALLS = (answers, plans, behind)
# Four tickets with a cell each in a loft of four cells; the first and the third are given back.
SCATTERED = [("ask", 1), ("ask", 1), ("ask", 1), ("ask", 1), ("give", 0), ("give", 2)]
SCATTERED_PLAN = ([(1, 1, 1), (3, 3, 1)], [(0, 1), (2, 1)])
# Deeds of all kinds, refused ones among them, in a loft of eight cells.
MIXED = [
    ("ask", 3), ("write", 0, 2, 30), ("ask", 1), ("write", 1, 0, -4), ("read", 0, 2), ("read", 0, 3),
    ("fit", 0, 2), ("fit", 0, 0), ("ask", 9), ("ask", 2), ("write", 2, 1, 8), ("give", 1), ("give", 1),
    ("fit", 0, 4), ("pack",), ("read", 0, 2), ("ask", 0), ("read", 2, 1),
]
MIXED_ANSWERS = [
    0, "done", 1, "done", 30, "no place", "done", "no need", "no room", 2, "done", "done", "no ticket",
    "done", "done", 0, "no need", 8,
]


def written(ticket, numbers):
    return [("write", ticket, place, number) for place, number in enumerate(numbers)]


def read(ticket, many):
    return [("read", ticket, place) for place in range(many)]


def last_plan(height, deeds):
    return plans(height, deeds)[-1]


class Heights(unittest.TestCase):
    def test_the_whole_loft_is_one_free_block_at_the_beginning(self):
        for height in range(11):
            empty = ([], [(0, 2 ** height)])
            # Neither a packing nor a refused deed changes the empty loft.
            self.assertEqual(plans(height, [("pack",), ("ask", 0), ("give", 0)]), [empty, empty, empty])

    def test_a_loft_has_twice_as_many_cells_with_each_one_more(self):
        for height in range(11):
            size = 2 ** height
            self.assertEqual(answers(height, [("ask", size + 1), ("ask", size), ("ask", 1)]), ["no room", 0, "no room"])
            self.assertEqual(last_plan(height, [("ask", size)]), ([(0, 0, size)], []))

    def test_other_heights_are_refused_also_with_no_deeds(self):
        for call in CALLS:
            for height in (-1, -2, 11, 12, GREAT, -GREAT):
                for deeds in ([], [("ask", 1)], [("ask", 0)]):
                    for refusal in (NoHeight, LoftError, ValueError):
                        with self.subTest(call=call.__name__, height=height, deeds=deeds, refusal=refusal):
                            with self.assertRaises(refusal):
                                call(height, deeds)

    def test_a_day_without_deeds(self):
        for call in CALLS:
            for height in (0, 3, 10):
                self.assertEqual(call(height, []), [])


class Asking(unittest.TestCase):
    def test_the_block_has_the_least_span_that_suffices(self):
        for many, span in ((1, 1), (2, 2), (3, 4), (4, 4), (5, 8), (8, 8), (9, 16), (16, 16)):
            self.assertEqual(last_plan(4, [("ask", many)])[0], [(0, 0, span)])

    def test_halving(self):
        self.assertEqual(last_plan(3, [("ask", 1)]), ([(0, 0, 1)], [(1, 1), (2, 2), (4, 4)]))
        self.assertEqual(last_plan(3, [("ask", 3)]), ([(0, 0, 4)], [(4, 4)]))
        self.assertEqual(last_plan(3, [("ask", 7)]), ([(0, 0, 8)], []))

    def test_the_least_span_goes_ahead_of_the_least_start(self):
        deeds = [("ask", 4), ("ask", 1), ("give", 0)]
        self.assertEqual(last_plan(4, deeds), ([(1, 4, 1)], [(0, 4), (5, 1), (6, 2), (8, 8)]))
        self.assertEqual(last_plan(4, deeds + [("ask", 2)]), ([(1, 4, 1), (2, 6, 2)], [(0, 4), (5, 1), (8, 8)]))
        self.assertEqual(last_plan(4, deeds + [("ask", 3)]), ([(2, 0, 4), (1, 4, 1)], [(5, 1), (6, 2), (8, 8)]))

    def test_of_several_of_one_span_the_least_start(self):
        self.assertEqual(last_plan(2, SCATTERED + [("ask", 1)]), ([(4, 0, 1), (1, 1, 1), (3, 3, 1)], [(2, 1)]))

    def test_packing_first_where_no_free_block_is_great_enough(self):
        self.assertEqual(last_plan(2, SCATTERED), SCATTERED_PLAN)
        packed = ([(1, 0, 1), (3, 1, 1), (4, 2, 2)], [])
        self.assertEqual(last_plan(2, SCATTERED + [("ask", 2)]), packed)
        self.assertEqual(answers(2, SCATTERED + [("ask", 2)])[-1], 4)

    def test_packing_first_keeps_what_the_tickets_hold(self):
        deeds = SCATTERED + [("write", 1, 0, 11), ("write", 3, 0, 33), ("ask", 2)]
        self.assertEqual(behind(2, deeds), [(1, [11]), (3, [33]), (4, [0, 0])])

    def test_packing_first_and_halving_then(self):
        # Two halves of four are free here and there; packed, the free stretch is (8, 8).
        deeds = [("ask", 4), ("ask", 4), ("ask", 4), ("ask", 4), ("give", 0), ("give", 2), ("ask", 5)]
        self.assertEqual(last_plan(4, deeds), ([(1, 0, 4), (3, 4, 4), (4, 8, 8)], []))
        deeds = [("ask", 1)] * 8 + [("give", 0), ("give", 2), ("give", 4), ("ask", 2)]
        plan = ([(1, 0, 1), (3, 1, 1), (5, 2, 1), (6, 3, 1), (7, 4, 1), (8, 6, 2)], [(5, 1)])
        self.assertEqual(last_plan(3, deeds), plan)

    def test_refused_just_where_the_free_cells_are_fewer_than_the_span(self):
        deeds = [("ask", 1)] * 8
        for gone in range(9):
            given = deeds + [("give", ticket) for ticket in (0, 2, 4, 6, 1, 3, 5, 7)[:gone]]
            for many, span in ((1, 1), (2, 2), (3, 4), (4, 4), (5, 8), (8, 8), (9, 16)):
                with self.subTest(gone=gone, many=many):
                    answer = answers(3, given + [("ask", many)])[-1]
                    self.assertEqual(answer, 8 if gone >= span else "no room")

    def test_no_packing_where_it_is_refused(self):
        for many in (3, 4, 5, GREAT):
            self.assertEqual(last_plan(2, SCATTERED + [("ask", many)]), SCATTERED_PLAN)

    def test_no_packing_where_it_is_not_needed(self):
        deeds = [("ask", 1), ("ask", 1), ("give", 0)]
        self.assertEqual(last_plan(2, deeds + [("ask", 2)]), ([(1, 1, 1), (2, 2, 2)], [(0, 1)]))
        self.assertEqual(last_plan(2, deeds + [("ask", 1)]), ([(2, 0, 1), (1, 1, 1)], [(2, 2)]))

    def test_cells_of_a_block_that_are_no_places_are_not_free(self):
        self.assertEqual(answers(2, [("ask", 3), ("ask", 1)]), [0, "no room"])


class Tickets(unittest.TestCase):
    def test_numbers_from_nought_on(self):
        self.assertEqual(answers(3, [("ask", 1)] * 9), [0, 1, 2, 3, 4, 5, 6, 7, "no room"])

    def test_no_number_a_second_time(self):
        deeds = [("ask", 1), ("give", 0), ("ask", 1), ("ask", 1), ("give", 2), ("give", 1), ("ask", 1)]
        self.assertEqual(answers(3, deeds), [0, "done", 1, 2, "done", "done", 3])

    def test_a_refused_ask_hands_out_no_number(self):
        deeds = [("ask", 2), ("ask", 0), ("ask", -1), ("ask", 1), ("ask", 1), ("give", 0), ("ask", 1)]
        self.assertEqual(answers(0, deeds), ["no room", "no need", "no need", 0, "no room", "done", 1])

    def test_a_new_tickets_places_hold_nought(self):
        self.assertEqual(answers(2, [("ask", 3)] + read(0, 3)), [0, 0, 0, 0])

    def test_also_where_its_cells_were_written_to_before(self):
        deeds = [("ask", 4)] + written(0, [1, 2, 3, 4]) + [("give", 0), ("ask", 4)]
        self.assertEqual(behind(2, deeds), [(1, [0, 0, 0, 0])])
        deeds = [("ask", 4)] + written(0, [1, 2, 3, 4]) + [("give", 0), ("ask", 2), ("ask", 1), ("ask", 1)]
        self.assertEqual(behind(2, deeds), [(1, [0, 0]), (2, [0]), (3, [0])])

    def test_also_where_they_were_moved_away_from_them(self):
        # Packing brings both to the lower cells; the upper ones were written to.
        deeds = SCATTERED + [("write", 1, 0, 11), ("write", 3, 0, 33), ("pack",), ("ask", 2)]
        self.assertEqual(behind(2, deeds), [(1, [11]), (3, [33]), (4, [0, 0])])
        # A fit to a greater span leaves the old block, which the next ticket gets.
        deeds = [("ask", 2)] + written(0, [5, 6]) + [("fit", 0, 3), ("ask", 4)]
        self.assertEqual(behind(3, deeds), [(0, [5, 6, 0]), (1, [0, 0, 0, 0])])
        # A fit to a lesser span leaves the upper half.
        deeds = [("ask", 4)] + written(0, [5, 6, 7, 8]) + [("fit", 0, 1), ("ask", 2), ("ask", 1)]
        self.assertEqual(behind(2, deeds), [(0, [5]), (1, [0, 0]), (2, [0])])


class Giving(unittest.TestCase):
    def test_the_block_becomes_free_and_is_joined(self):
        deeds = [("ask", 1), ("ask", 1), ("ask", 2)]
        self.assertEqual(last_plan(2, deeds + [("give", 0)]), ([(1, 1, 1), (2, 2, 2)], [(0, 1)]))
        self.assertEqual(last_plan(2, deeds + [("give", 0), ("give", 1)]), ([(2, 2, 2)], [(0, 2)]))
        self.assertEqual(last_plan(2, deeds + [("give", 1), ("give", 2), ("give", 0)]), ([], [(0, 4)]))

    def test_neighbours_that_are_no_mates_are_not_joined(self):
        deeds = [("ask", 1)] * 4 + [("give", 1), ("give", 2)]
        self.assertEqual(last_plan(2, deeds), ([(0, 0, 1), (3, 3, 1)], [(1, 1), (2, 1)]))

    def test_the_ticket_is_out_no_longer(self):
        deeds = [("ask", 1), ("give", 0), ("give", 0), ("read", 0, 0), ("write", 0, 0, 1), ("fit", 0, 1)]
        self.assertEqual(answers(2, deeds), [0, "done"] + ["no ticket"] * 4)
        self.assertEqual(behind(2, deeds), [])


class Packing(unittest.TestCase):
    def test_greater_spans_go_ahead(self):
        deeds = [("ask", 1), ("ask", 2), ("ask", 4)]
        self.assertEqual(last_plan(3, deeds), ([(0, 0, 1), (1, 2, 2), (2, 4, 4)], [(1, 1)]))
        self.assertEqual(last_plan(3, deeds + [("pack",)]), ([(2, 0, 4), (1, 4, 2), (0, 6, 1)], [(7, 1)]))

    def test_those_of_one_span_keep_the_order_in_which_they_lay_and_not_that_of_the_tickets(self):
        deeds = SCATTERED + [("ask", 1), ("give", 1), ("pack",)]
        self.assertEqual(last_plan(2, deeds), ([(4, 0, 1), (3, 1, 1)], [(2, 2)]))

    def test_the_free_stretch_is_cut_up(self):
        self.assertEqual(last_plan(2, SCATTERED + [("pack",)]), ([(1, 0, 1), (3, 1, 1)], [(2, 2)]))
        deeds = [("ask", 2), ("ask", 1), ("give", 0), ("pack",)]
        self.assertEqual(last_plan(4, deeds), ([(1, 0, 1)], [(1, 1), (2, 2), (4, 4), (8, 8)]))
        self.assertEqual(last_plan(3, [("ask", 8), ("pack",)]), ([(0, 0, 8)], []))
        self.assertEqual(last_plan(3, [("ask", 8), ("give", 0), ("pack",)]), ([], [(0, 8)]))

    def test_what_the_tickets_hold_stays(self):
        deeds = [("ask", 1), ("ask", 2), ("ask", 3)] + written(0, [1]) + written(1, [2, 3]) + written(2, [4, 5, 6])
        held = [(0, [1]), (1, [2, 3]), (2, [4, 5, 6])]
        self.assertEqual(behind(3, deeds), held)
        self.assertEqual(behind(3, deeds + [("pack",)]), held)
        self.assertEqual(behind(3, deeds + [("pack",), ("pack",)]), held)
        self.assertEqual(answers(3, deeds + [("pack",)] + read(2, 3))[-4:], ["done", 4, 5, 6])

    def test_writing_behind_a_packing_goes_to_the_new_cells(self):
        deeds = SCATTERED + [("write", 1, 0, 11), ("pack",), ("write", 3, 0, 33), ("write", 1, 0, 12)]
        self.assertEqual(behind(2, deeds), [(1, [12]), (3, [33])])


class Fitting(unittest.TestCase):
    def test_within_the_span_the_block_stays(self):
        deeds = [("ask", 1), ("ask", 8)]
        for many in (5, 6, 7, 8):
            plan = ([(0, 0, 1), (1, 8, 8)], [(1, 1), (2, 2), (4, 4)])
            self.assertEqual(last_plan(4, deeds + [("fit", 1, many)]), plan)

    def test_as_many_places_as_before(self):
        deeds = [("ask", 3)] + written(0, [1, 2, 3]) + [("fit", 0, 3)]
        self.assertEqual(behind(2, deeds), [(0, [1, 2, 3])])
        self.assertEqual(plans(2, deeds), [([(0, 0, 4)], [])] * 5)

    def test_fewer_and_more_places_within_the_span(self):
        deeds = [("ask", 4)] + written(0, [1, 2, 3, 4])
        self.assertEqual(behind(2, deeds + [("fit", 0, 3)]), [(0, [1, 2, 3])])
        self.assertEqual(answers(2, deeds + [("fit", 0, 3)] + read(0, 4))[-5:], ["done", 1, 2, 3, "no place"])
        self.assertEqual(behind(2, [("ask", 3)] + written(0, [1, 2, 3]) + [("fit", 0, 4)]), [(0, [1, 2, 3, 0])])

    def test_a_place_that_was_had_once_before_holds_nought_within_one_span(self):
        deeds = [("ask", 4)] + written(0, [1, 2, 3, 4]) + [("fit", 0, 3), ("fit", 0, 4)]
        self.assertEqual(behind(2, deeds), [(0, [1, 2, 3, 0])])
        deeds = [("ask", 4)] + written(0, [1, 2, 3, 4]) + [("fit", 0, 3), ("pack",), ("fit", 0, 4)]
        self.assertEqual(behind(2, deeds), [(0, [1, 2, 3, 0])])

    def test_a_place_that_was_had_once_before_holds_nought_over_several_spans(self):
        deeds = [("ask", 4)] + written(0, [1, 2, 3, 4]) + [("fit", 0, 1), ("fit", 0, 4)]
        self.assertEqual(behind(3, deeds), [(0, [1, 0, 0, 0])])
        deeds = [("ask", 2)] + written(0, [1, 2]) + [("fit", 0, 4), ("fit", 0, 1), ("fit", 0, 2)]
        self.assertEqual(behind(3, deeds), [(0, [1, 0])])

    def test_new_places_hold_nought_where_others_wrote_before(self):
        deeds = [("ask", 2), ("ask", 4)] + written(1, [5, 6, 7, 8]) + [("give", 1), ("fit", 0, 3), ("fit", 0, 4)]
        self.assertEqual(behind(3, deeds), [(0, [0, 0, 0, 0])])
        self.assertEqual(last_plan(3, deeds), ([(0, 4, 4)], [(0, 4)]))

    def test_to_a_lesser_span(self):
        self.assertEqual(last_plan(3, [("ask", 8), ("fit", 0, 3)]), ([(0, 0, 4)], [(4, 4)]))
        self.assertEqual(last_plan(3, [("ask", 8), ("fit", 0, 1)]), ([(0, 0, 1)], [(1, 1), (2, 2), (4, 4)]))
        deeds = [("ask", 4), ("ask", 4)] + written(1, [1, 2, 3, 4]) + [("give", 0), ("fit", 1, 2)]
        self.assertEqual(last_plan(3, deeds), ([(1, 4, 2)], [(0, 4), (6, 2)]))
        self.assertEqual(behind(3, deeds), [(1, [1, 2])])

    def test_the_upper_halves_are_joined_once_their_mates_are_free(self):
        deeds = [("ask", 8), ("fit", 0, 4), ("fit", 0, 2), ("fit", 0, 1), ("give", 0)]
        free = [[], [(4, 4)], [(2, 2), (4, 4)], [(1, 1), (2, 2), (4, 4)], [(0, 8)]]
        self.assertEqual([plan[1] for plan in plans(3, deeds)], free)

    def test_to_a_lesser_span_in_a_full_loft(self):
        self.assertEqual(answers(2, [("ask", 4), ("fit", 0, 1), ("ask", 2), ("ask", 1)]), [0, "done", 1, 2])

    def test_to_a_greater_span_the_old_block_is_in_use_till_then(self):
        # Its mate is free, but a fit never grows in place.
        deeds = [("ask", 2)] + written(0, [7, 8]) + [("fit", 0, 3)]
        self.assertEqual(last_plan(3, deeds), ([(0, 4, 4)], [(0, 4)]))
        self.assertEqual(behind(3, deeds), [(0, [7, 8, 0])])
        self.assertEqual(last_plan(3, [("ask", 1), ("fit", 0, 2)]), ([(0, 2, 2)], [(0, 2), (4, 4)]))

    def test_to_a_greater_span_only_its_own_block_moves(self):
        deeds = [("ask", 1), ("ask", 1), ("ask", 1), ("give", 1), ("fit", 0, 3)]
        self.assertEqual(last_plan(3, deeds), ([(2, 2, 1), (0, 4, 4)], [(0, 2), (3, 1)]))

    def test_to_a_greater_span_with_packing_first(self):
        deeds = SCATTERED + [("write", 1, 0, 11), ("write", 3, 0, 33)]
        self.assertEqual(last_plan(2, deeds + [("fit", 3, 2)]), ([(1, 0, 1), (3, 2, 2)], [(1, 1)]))
        self.assertEqual(behind(2, deeds + [("fit", 3, 2)]), [(1, [11]), (3, [33, 0])])
        self.assertEqual(last_plan(2, deeds + [("fit", 1, 2)]), ([(3, 1, 1), (1, 2, 2)], [(0, 1)]))
        self.assertEqual(behind(2, deeds + [("fit", 1, 2)]), [(1, [11, 0]), (3, [33])])

    def test_packing_first_and_the_old_block_is_joined_where_it_lies_then(self):
        # Packed, the cells 0 to 2 hold tickets 1, 3 and 5; ticket 5 goes from cell 2 to (4, 4).
        deeds = [("ask", 1)] * 8 + [("give", ticket) for ticket in (0, 2, 4, 6, 7)] + [("fit", 5, 3)]
        self.assertEqual(last_plan(3, deeds), ([(1, 0, 1), (3, 1, 1), (5, 4, 4)], [(2, 2)]))

    def test_refused_where_the_free_cells_without_the_old_blocks_are_fewer(self):
        deeds = [("ask", 2)] + written(0, [7, 8])
        self.assertEqual(answers(2, deeds + [("fit", 0, 3)])[-1], "no room")
        self.assertEqual(last_plan(2, deeds + [("fit", 0, 3)]), ([(0, 0, 2)], [(2, 2)]))
        self.assertEqual(behind(2, deeds + [("fit", 0, 3)]), [(0, [7, 8])])
        deeds = [("ask", 1), ("ask", 1), ("ask", 1), ("fit", 0, 2)]
        self.assertEqual(answers(2, deeds)[-1], "no room")

    def test_no_packing_where_it_is_refused(self):
        for many in (3, 4, 5, GREAT):
            for ticket in (1, 3):
                deeds = SCATTERED + [("fit", ticket, many)]
                self.assertEqual(answers(2, deeds)[-1], "no room")
                self.assertEqual(last_plan(2, deeds), SCATTERED_PLAN)

    def test_no_packing_where_the_span_stays_or_gets_less(self):
        self.assertEqual(last_plan(2, SCATTERED + [("fit", 3, 1)]), SCATTERED_PLAN)
        deeds = [("ask", 1), ("ask", 4), ("ask", 2), ("give", 0), ("fit", 1, 2)]
        self.assertEqual(last_plan(3, deeds), ([(2, 2, 2), (1, 4, 2)], [(0, 2), (6, 2)]))

    def test_writing_behind_a_fit_goes_to_the_new_cells(self):
        deeds = [("ask", 1), ("ask", 1), ("fit", 0, 2), ("write", 0, 0, 5), ("write", 0, 1, 6), ("write", 1, 0, 7)]
        self.assertEqual(behind(2, deeds), [(0, [5, 6]), (1, [7])])


class AnswersAndRefusals(unittest.TestCase):
    def test_each_deed_has_its_answer(self):
        self.assertEqual(answers(3, MIXED), MIXED_ANSWERS)

    def test_the_kinds_of_the_answers(self):
        told = answers(3, MIXED)
        self.assertIs(type(told), list)
        self.assertEqual([type(answer) for answer in told], [type(answer) for answer in MIXED_ANSWERS])

    def test_numbers_of_many_figures_and_any_sign(self):
        for number in (GREAT, -GREAT, 10 * GREAT + 7, -1, 0):
            self.assertEqual(answers(1, [("ask", 2), ("write", 0, 1, number)] + read(0, 2)), [0, "done", 0, number])

    def test_no_ticket(self):
        for ticket in (0, 2, -1, GREAT, -GREAT):
            for deed in (("give", ticket), ("write", ticket, 0, 5), ("read", ticket, 0), ("fit", ticket, 1)):
                deeds = [("ask", 1), ("ask", 1), ("give", 0), deed]
                self.assertEqual(answers(3, deeds)[-1], "no ticket", deed)

    def test_no_need(self):
        for many in (0, -1, -GREAT):
            self.assertEqual(answers(3, [("ask", 1), ("ask", many), ("fit", 0, many)]), [0, "no need", "no need"])

    def test_no_place(self):
        for place in (-1, 3, 4, GREAT, -GREAT):
            deeds = [("ask", 3), ("read", 0, place), ("write", 0, place, 5)]
            self.assertEqual(answers(3, deeds), [0, "no place", "no place"])
        self.assertEqual(answers(3, [("ask", 3), ("read", 0, 0), ("read", 0, 2)]), [0, 0, 0])

    def test_no_room(self):
        for many in (9, 16, 17, GREAT, 10 ** 110):
            self.assertEqual(answers(3, [("ask", 1), ("ask", many), ("fit", 0, many)]), [0, "no room", "no room"])

    def test_the_one_named_first_where_more_than_one_holds(self):
        full = [("ask", 1)]
        for deed, answer in (
            (("fit", 1, 0), "no ticket"), (("fit", -1, -5), "no ticket"), (("fit", 1, GREAT), "no ticket"),
            (("read", 1, -1), "no ticket"), (("write", 1, 1, 5), "no ticket"),
            (("ask", 0), "no need"), (("ask", -GREAT), "no need"), (("fit", 0, 0), "no need"),
        ):
            self.assertEqual(answers(0, full + [deed])[-1], answer, deed)

    def test_behind_a_refused_deed_all_is_as_it_was(self):
        deeds = [("ask", 3), ("ask", 1), ("ask", 1), ("ask", 1), ("give", 2), ("fit", 0, 3)] + written(0, [1, 2, 3])
        deeds = deeds + written(1, [4]) + written(3, [5])
        refused = [
            ("give", 2), ("give", 9), ("write", 2, 0, 7), ("write", 0, 3, 7), ("write", 0, -1, 7), ("write", 1, 1, 7),
            ("read", 0, 3), ("read", 1, -1), ("read", 5, 0), ("fit", 2, 1), ("fit", 0, 0), ("fit", 0, 5),
            ("fit", 1, 3), ("ask", 0), ("ask", 3), ("ask", 9),
        ]
        texts = ("no ticket", "no need", "no place", "no room")
        after = [("read", 0, 0), ("read", 0, 2), ("read", 1, 0), ("read", 3, 0), ("ask", 2), ("read", 4, 1)]
        for deed in refused:
            with self.subTest(deed=deed):
                self.assertIn(answers(3, deeds + [deed])[-1], texts)
                self.assertEqual(last_plan(3, deeds + [deed]), last_plan(3, deeds))
                self.assertEqual(behind(3, deeds + [deed]), behind(3, deeds))
                self.assertEqual(answers(3, deeds + [deed] + after)[-6:], answers(3, deeds + after)[-6:])
                self.assertEqual(plans(3, deeds + [deed] + after)[-6:], plans(3, deeds + after)[-6:])


class PlansAndBehind(unittest.TestCase):
    def test_a_plan_behind_each_deed_refused_ones_too(self):
        deeds = [("ask", 2), ("ask", 9), ("ask", 1), ("give", 7), ("give", 0), ("read", 1, 0), ("read", 1, 1)]
        expected = [
            ([(0, 0, 2)], [(2, 2), (4, 4)]),
            ([(0, 0, 2)], [(2, 2), (4, 4)]),
            ([(0, 0, 2), (1, 2, 1)], [(3, 1), (4, 4)]),
            ([(0, 0, 2), (1, 2, 1)], [(3, 1), (4, 4)]),
            ([(1, 2, 1)], [(0, 2), (3, 1), (4, 4)]),
            ([(1, 2, 1)], [(0, 2), (3, 1), (4, 4)]),
            ([(1, 2, 1)], [(0, 2), (3, 1), (4, 4)]),
        ]
        self.assertEqual(plans(3, deeds), expected)

    def test_blocks_in_use_go_by_their_start_and_not_by_their_ticket(self):
        deeds = [("ask", 4), ("ask", 4), ("give", 0), ("ask", 1)]
        self.assertEqual(last_plan(3, deeds), ([(2, 0, 1), (1, 4, 4)], [(1, 1), (2, 2)]))

    def test_the_kinds_of_a_plan(self):
        for plan in plans(3, MIXED):
            self.assertIs(type(plan), tuple)
            self.assertEqual([type(part) for part in plan], [list, list])
            for block in plan[0] + plan[1]:
                self.assertIs(type(block), tuple)
                self.assertEqual({type(number) for number in block}, {int})
            self.assertEqual({len(block) for block in plan[0]} | {3}, {3})
            self.assertEqual({len(block) for block in plan[1]} | {2}, {2})

    def test_behind_goes_by_the_ticket_with_as_many_numbers_as_places(self):
        deeds = [("ask", 4), ("ask", 3), ("give", 0), ("ask", 1), ("ask", 2), ("write", 1, 2, 9), ("write", 3, 0, -9)]
        self.assertEqual(behind(3, deeds), [(1, [0, 0, 9]), (2, [0]), (3, [-9, 0])])
        self.assertEqual([block[0] for block in last_plan(3, deeds)[0]], [2, 3, 1])

    def test_the_kinds_of_behind(self):
        told = behind(3, MIXED)
        self.assertEqual(told, [(0, [0, 0, 0, 0]), (2, [0, 8])])
        self.assertIs(type(told), list)
        for pair in told:
            self.assertEqual((type(pair), type(pair[0]), type(pair[1])), (tuple, int, list))


class NothingChangedOrKept(unittest.TestCase):
    def test_the_deeds_are_the_same_behind_each_call(self):
        for call in CALLS:
            deeds = list(MIXED)
            call(3, deeds)
            self.assertEqual(deeds, MIXED)

    def test_changing_the_deeds_later_changes_no_answer(self):
        for call in CALLS:
            deeds = list(MIXED)
            told = call(3, deeds)
            kept = copy.deepcopy(told)
            deeds[0] = ("ask", 1)
            deeds.clear()
            self.assertEqual(told, kept)

    def test_changing_an_answer_changes_no_later_one(self):
        for call in CALLS:
            told = call(3, MIXED)
            kept = copy.deepcopy(told)
            for part in told:
                for inner in part if isinstance(part, tuple) else ():
                    if isinstance(inner, list):
                        inner.append(5)
            told.clear()
            self.assertEqual(call(3, MIXED), kept)

    def test_a_plan_stays_as_it_was_told(self):
        for number in range(len(MIXED)):
            self.assertEqual(plans(3, MIXED)[number], last_plan(3, MIXED[:number + 1]))

    def test_changing_one_plan_changes_no_other(self):
        # Behind a refused or reading deed the plan is the same, yet not the same lists.
        deeds = [("ask", 1), ("read", 0, 0), ("give", 5), ("write", 0, 0, 4), ("fit", 0, 1), ("pack",)]
        kept = plans(2, deeds)
        for number in range(len(deeds)):
            told = plans(2, deeds)
            told[number][0].append("more")
            told[number][1].clear()
            for other in range(len(deeds)):
                if other != number:
                    self.assertEqual(told[other], kept[other])

    def test_changing_a_list_of_numbers_changes_no_other(self):
        told = behind(2, [("ask", 1), ("ask", 1), ("ask", 2)])
        told[0][1].append(7)
        told[2][1][0] = 8
        self.assertEqual(told, [(0, [0, 7]), (1, [0]), (2, [8, 0])])

    def test_each_day_begins_with_an_empty_loft(self):
        for call in CALLS:
            first = call(3, MIXED)
            self.assertEqual(call(3, MIXED), first)


if __name__ == "__main__":
    unittest.main()
