import unittest

from loftstore.errors import LoftError, NoHeight, NoNeed, NoPlace, NoRoom, NoTicket
from loftstore.loft import Loft

GREAT = 10 ** 100 - 1


class Heights(unittest.TestCase):
    def test_a_loft_has_twice_as_many_cells_with_each_one_more(self):
        for height in range(11):
            with self.subTest(height=height):
                self.assertEqual(Loft(height).ask(2 ** height), 0)
                with self.assertRaises(NoRoom):
                    Loft(height).ask(2 ** height + 1)
                loft = Loft(height)
                self.assertEqual([loft.ask(1) for cell in range(2 ** height)], list(range(2 ** height)))
                with self.assertRaises(NoRoom):
                    loft.ask(1)

    def test_other_heights_are_refused(self):
        for height in (-1, -2, 11, 12, 1000, GREAT, -GREAT):
            for refusal in (NoHeight, LoftError, ValueError):
                with self.subTest(height=height, refusal=refusal):
                    with self.assertRaises(refusal):
                        Loft(height)


class GivenByTheMethods(unittest.TestCase):
    def test_ask_gives_the_ticket_and_read_the_number(self):
        loft = Loft(3)
        self.assertEqual([loft.ask(2), loft.ask(1), loft.ask(4)], [0, 1, 2])
        loft.write(2, 3, 17)
        self.assertEqual(loft.read(2, 3), 17)
        self.assertIs(type(loft.read(2, 0)), int)

    def test_the_others_give_nothing(self):
        loft = Loft(3)
        loft.ask(2)
        self.assertIsNone(loft.write(0, 1, 5))
        for many in (1, 2, 3, 3):
            self.assertIsNone(loft.fit(0, many))
        self.assertIsNone(loft.pack())
        self.assertIsNone(loft.give(0))
        self.assertIsNone(loft.pack())


class WritingAndReading(unittest.TestCase):
    def test_what_was_last_written_is_read(self):
        loft = Loft(2)
        loft.ask(3)
        for number in (1, -1, 0, GREAT, -GREAT, 10 * GREAT):
            loft.write(0, 1, number)
            self.assertEqual([loft.read(0, place) for place in range(3)], [0, number, 0])

    def test_each_place_holds_its_own_number(self):
        loft = Loft(4)
        tickets = [(loft.ask(many), many) for many in (3, 1, 2, 5)]
        places = [(ticket, place) for ticket, many in tickets for place in range(many)]
        for ticket, place in places:
            loft.write(ticket, place, 100 * ticket + place + 1)
        for ticket, place in places:
            self.assertEqual(loft.read(ticket, place), 100 * ticket + place + 1)


class Refusals(unittest.TestCase):
    def setUp(self):
        # Ticket 0 was given back, 1 has three places in a block of four, 2 has one; three cells are free.
        self.loft = Loft(3)
        for many in (1, 3, 1):
            self.loft.ask(many)
        self.loft.give(0)
        for place in range(3):
            self.loft.write(1, place, place + 10)
        self.loft.write(2, 0, 20)

    def as_it_was(self):
        self.assertEqual([self.loft.read(1, place) for place in range(3)], [10, 11, 12])
        self.assertEqual(self.loft.read(2, 0), 20)
        with self.assertRaises(NoPlace):
            self.loft.read(1, 3)
        with self.assertRaises(NoPlace):
            self.loft.read(2, 1)
        with self.assertRaises(NoRoom):
            self.loft.ask(3)
        self.assertEqual([self.loft.ask(2), self.loft.ask(1)], [3, 4])
        with self.assertRaises(NoRoom):
            self.loft.ask(1)

    def refused(self, refusal, deed):
        with self.assertRaises(refusal) as caught:
            deed()
        self.assertIs(type(caught.exception), refusal)
        self.as_it_was()

    def test_no_ticket_by_each_deed(self):
        for number, deed in enumerate((
            lambda ticket: self.loft.give(ticket),
            lambda ticket: self.loft.write(ticket, 0, 5),
            lambda ticket: self.loft.read(ticket, 0),
            lambda ticket: self.loft.fit(ticket, 1),
        )):
            for ticket in (0, 3, -1, -2, GREAT, -GREAT):
                with self.subTest(deed=number, ticket=ticket):
                    self.setUp()
                    self.refused(NoTicket, lambda: deed(ticket))

    def test_no_ticket_goes_ahead_of_the_others(self):
        for number, deed in enumerate((
            lambda: self.loft.fit(0, 0),
            lambda: self.loft.fit(0, -GREAT),
            lambda: self.loft.fit(3, GREAT),
            lambda: self.loft.write(0, -1, 5),
            lambda: self.loft.write(3, GREAT, 5),
            lambda: self.loft.read(0, 7),
            lambda: self.loft.read(-1, -1),
        )):
            with self.subTest(deed=number):
                self.setUp()
                self.refused(NoTicket, deed)

    def test_no_need(self):
        for many in (0, -1, -7, -GREAT):
            with self.subTest(many=many):
                self.setUp()
                self.refused(NoNeed, lambda: self.loft.ask(many))
                self.setUp()
                self.refused(NoNeed, lambda: self.loft.fit(1, many))

    def test_no_place(self):
        for ticket, place in ((1, -1), (1, 3), (1, 4), (2, 1), (2, -1), (1, GREAT), (1, -GREAT)):
            with self.subTest(ticket=ticket, place=place):
                self.setUp()
                self.refused(NoPlace, lambda: self.loft.read(ticket, place))
                self.setUp()
                self.refused(NoPlace, lambda: self.loft.write(ticket, place, 5))

    def test_no_room(self):
        for many in (3, 4, 5, 8, 9, 1025, GREAT, 10 ** 110):
            with self.subTest(many=many):
                self.setUp()
                self.refused(NoRoom, lambda: self.loft.ask(many))
                self.setUp()
                self.refused(NoRoom, lambda: self.loft.fit(2, many))

    def test_no_room_for_a_greater_span_though_the_old_block_would_make_it_up(self):
        loft = Loft(3)
        loft.ask(2)
        loft.ask(4)
        loft.write(0, 1, 5)
        with self.assertRaises(NoRoom):
            loft.fit(0, 3)
        self.assertEqual([loft.read(0, place) for place in range(2)], [0, 5])
        with self.assertRaises(NoPlace):
            loft.read(0, 2)
        self.assertEqual(loft.ask(2), 2)

    def test_no_place_where_a_fit_took_it_away(self):
        loft = Loft(3)
        loft.ask(4)
        loft.fit(0, 3)
        for deed in (lambda: loft.read(0, 3), lambda: loft.write(0, 3, 1)):
            with self.assertRaises(NoPlace):
                deed()


class TwoLofts(unittest.TestCase):
    def test_they_do_not_touch_one_another(self):
        one = Loft(2)
        other = Loft(2)
        self.assertEqual([one.ask(2), one.ask(1)], [0, 1])
        self.assertEqual(other.ask(2), 0)
        one.write(0, 0, 5)
        other.write(0, 0, 7)
        one.write(1, 0, 6)
        with self.assertRaises(NoTicket):
            other.read(1, 0)
        other.give(0)
        self.assertEqual((one.read(0, 0), one.read(1, 0)), (5, 6))
        self.assertEqual(other.ask(4), 1)
        one.give(1)
        self.assertEqual(other.read(1, 0), 0)
        self.assertEqual(one.ask(2), 2)


if __name__ == "__main__":
    unittest.main()
