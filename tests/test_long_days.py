"""Whole days held against a plain loft, deed by deed."""

import itertools
import random
import unittest

from loftstore.day import answers, behind, plans
from loftstore.errors import LoftError
from loftstore.loft import Loft
from plain_loft import PlainLoft

GREAT = 10 ** 100 - 1
SMALL_DEEDS = [
    ("ask", 1), ("ask", 2), ("ask", 3), ("give", 0), ("give", 1), ("fit", 0, 1), ("fit", 0, 2), ("fit", 1, 3),
    ("write", 0, 1, 6), ("write", 1, 0, 7), ("pack",),
]


def some_number(chance):
    return chance.choice((0, 1, -1, chance.randrange(1000), GREAT, -GREAT, chance.randrange(-GREAT, GREAT)))


def some_many(chance, height):
    if chance.randrange(20) == 0:
        return chance.choice((0, -1, -GREAT, GREAT, 2 ** height + 1))
    return chance.randrange(1, 2 ** chance.randrange(height + 1) + 1)


def some_ticket(chance, plain):
    if not plain.numbers or chance.randrange(20) == 0:
        return chance.choice((-1, plain.coming, GREAT, chance.randrange(plain.coming + 1)))
    return chance.choice(sorted(plain.numbers))


def some_place(chance, plain, ticket):
    many = len(plain.numbers.get(ticket, [0]))
    if chance.randrange(15) == 0:
        return chance.choice((-1, many, many + 1, GREAT, -GREAT))
    return chance.randrange(many)


def some_deed(chance, height, plain, names):
    name = chance.choice(names)
    if name == "ask":
        return (name, some_many(chance, height))
    if name == "pack":
        return (name,)
    ticket = some_ticket(chance, plain)
    if name == "give":
        return (name, ticket)
    if name == "fit":
        return (name, ticket, some_many(chance, height))
    place = some_place(chance, plain, ticket)
    return (name, ticket, place) if name == "read" else (name, ticket, place, some_number(chance))


def some_day(seed, height, many, names):
    # The deeds of a day, and what the plain loft says of them.
    chance = random.Random(seed)
    plain = PlainLoft(height)
    deeds, told, stages = [], [], []
    for number in range(many):
        deeds.append(some_deed(chance, height, plain, names))
        told.append(plain.do(deeds[-1]))
        stages.append(plain.plan())
    return deeds, told, stages, plain


# Often asked and seldom given back, the loft is near full, so that it is packed often.
NAMES = ["ask"] * 6 + ["give"] * 3 + ["fit"] * 5 + ["write"] * 5 + ["read"] * 3 + ["pack"]
SELDOM_PACKED = ["ask"] * 8 + ["give"] * 5 + ["fit"] * 5 + ["write"] * 6 + ["read"] * 4


class LongDays(unittest.TestCase):
    def held_against(self, height, day):
        deeds, told, stages, plain = day
        self.assertEqual(answers(height, deeds), told)
        self.assertEqual(plans(height, deeds), stages)
        self.assertEqual(behind(height, deeds), plain.behind())

    def test_days_in_lofts_of_every_height(self):
        for height in range(11):
            many = 400 if height < 8 else 150
            for seed in range(6):
                for names in (NAMES, SELDOM_PACKED):
                    with self.subTest(height=height, seed=seed, packs="pack" in names):
                        self.held_against(height, some_day(seed, height, many, names))

    def test_days_of_twelve_hundred_deeds_in_a_loft_of_the_height_ten(self):
        for seed, names in ((100, NAMES), (101, SELDOM_PACKED)):
            with self.subTest(seed=seed):
                self.held_against(10, some_day(seed, 10, 1200, names))

    def test_the_days_have_all_kinds_of_answers_and_packings(self):
        deeds, told, stages, plain = some_day(3, 5, 1200, SELDOM_PACKED)
        self.assertTrue({"done", "no ticket", "no need", "no place", "no room"} <= set(told))
        self.assertGreater(plain.packings, 20)
        self.held_against(5, (deeds, told, stages, plain))

    def test_a_loft_as_full_as_it_can_be(self):
        deeds = [("ask", 1)] * 1024 + [("write", ticket, 0, ticket - 500) for ticket in range(0, 1024, 6)]
        told = answers(10, deeds + [("ask", 1), ("pack",)])
        self.assertEqual(told[:1024], list(range(1024)))
        self.assertEqual(told[-2:], ["no room", "done"])
        held = [(ticket, [ticket - 500 if ticket % 6 == 0 else 0]) for ticket in range(1024)]
        self.assertEqual(behind(10, deeds), held)
        self.assertEqual(plans(10, deeds)[-1], ([(ticket, ticket, 1) for ticket in range(1024)], []))

    def test_every_short_day_in_a_small_loft(self):
        for deeds in itertools.product(SMALL_DEEDS, repeat=4):
            plain = PlainLoft(2)
            told, stages = [], []
            for deed in deeds:
                told.append(plain.do(deed))
                stages.append(plain.plan())
            self.held_against(2, (list(deeds), told, stages, plain))


class Plans(unittest.TestCase):
    def test_the_blocks_cover_the_loft_just_once_and_no_free_ones_are_mates(self):
        for height in range(8):
            deeds = some_day(50 + height, height, 300, NAMES)[0]
            for used, free in plans(height, deeds):
                blocks = [(start, span) for ticket, start, span in used] + free
                cells = [cell for start, span in blocks for cell in range(start, start + span)]
                self.assertEqual(sorted(cells), list(range(2 ** height)))
                self.assertTrue(all(span & (span - 1) == 0 and start % span == 0 for start, span in blocks))
                self.assertEqual(used, sorted(used, key=lambda block: block[1]))
                self.assertEqual(free, sorted(free))
                for start, span in free:
                    self.assertNotIn((start ^ span, span), free)


class OneLoftThroughItsMethods(unittest.TestCase):
    def test_the_methods_do_what_the_day_tells(self):
        for seed in range(4):
            deeds, told, stages, plain = some_day(200 + seed, 6, 500, NAMES)
            loft = Loft(6)
            for deed, answer in zip(deeds, told):
                given = None
                try:
                    given = getattr(loft, deed[0])(*deed[1:])
                    refusal = None
                except LoftError as error:
                    refusal = {"NoTicket": "no ticket", "NoNeed": "no need", "NoPlace": "no place",
                               "NoRoom": "no room"}[type(error).__name__]
                if refusal is not None:
                    self.assertEqual(refusal, answer)
                else:
                    self.assertEqual(given, None if answer == "done" else answer)
            for ticket, numbers in plain.behind():
                self.assertEqual([loft.read(ticket, place) for place in range(len(numbers))], numbers)


class ReadsAndRoom(unittest.TestCase):
    def test_reads_and_room_against_plain_lists_and_a_count(self):
        # Nothing here knows where a block lies: a list for each ticket and a count of free cells say it all.
        for seed in range(4):
            deeds = some_day(300 + seed, 7, 600, NAMES)[0]
            lists, spans, free, coming = {}, {}, 2 ** 7, 0
            for deed, answer in zip(deeds, answers(7, deeds)):
                name = deed[0]
                if answer in ("no ticket", "no need", "no place"):
                    continue
                if name in ("ask", "fit"):
                    span = 1 << (deed[-1] - 1).bit_length()
                    had = 0 if name == "ask" else spans[deed[1]]
                    self.assertEqual(answer == "no room", span > had and span > free)
                    if answer != "no room":
                        ticket = coming if name == "ask" else deed[1]
                        self.assertEqual(answer, ticket if name == "ask" else "done")
                        coming += name == "ask"
                        lists[ticket] = (lists.get(ticket, [])[:deed[-1]] + [0] * 2 ** 7)[:deed[-1]]
                        free, spans[ticket] = free + had - span, span
                elif name == "give":
                    free += spans.pop(deed[1])
                    lists.pop(deed[1])
                elif name == "write":
                    lists[deed[1]][deed[2]] = deed[3]
                elif name == "read":
                    self.assertEqual(answer, lists[deed[1]][deed[2]])


if __name__ == "__main__":
    unittest.main()
