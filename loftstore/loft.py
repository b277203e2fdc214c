"""A loft: its row of cells, the tickets that are out, and the deeds that are done with them."""

from loftstore.errors import NoHeight, NoNeed, NoPlace, NoRoom, NoTicket
from loftstore.free import best_of, given_back, taken
from loftstore.packing import packed
from loftstore.spans import cut_up, span_for

GREATEST_HEIGHT = 10


def size_of(height):
    size = 1
    for step in range(height):
        size = size * 2
    return size


def check_need(many):
    if many < 1:
        raise NoNeed("a ticket has one place or more")


class Loft:
    def __init__(self, height):
        if height < 0 or height > GREATEST_HEIGHT:
            raise NoHeight("a height is a whole number from nought to ten")
        self.cells = [0] * size_of(height)
        self.free = cut_up(0, len(self.cells))
        self.starts = {}
        self.places = {}
        self.tickets_made = 0

    def ask(self, many):
        check_need(many)
        start = self.take(span_for(many))
        ticket = self.tickets_made
        self.tickets_made = ticket + 1
        self.starts[ticket] = start
        self.places[ticket] = many
        # The cells may hold what another ticket left there.
        self.fill(start, [0] * many)
        return ticket

    def give(self, ticket):
        self.check_ticket(ticket)
        self.set_free(self.starts[ticket], self.span_of(ticket))
        self.starts.pop(ticket)
        self.places.pop(ticket)

    def write(self, ticket, place, number):
        self.check_place(ticket, place)
        self.cells[self.starts[ticket] + place] = number

    def read(self, ticket, place):
        self.check_place(ticket, place)
        return self.cells[self.starts[ticket] + place]

    def fit(self, ticket, many):
        self.check_ticket(ticket)
        check_need(many)
        held = self.held_by(ticket)
        span = span_for(many)
        if span > self.span_of(ticket):
            self.move(ticket, span)
        else:
            self.halve(ticket, span)
        self.places[ticket] = many
        # The noughts are laid down each time: a place that was had once before may still hold a number.
        self.fill(self.starts[ticket], held[:many] + [0] * (many - len(held)))

    def pack(self):
        cells = []
        for ticket, start, span in packed(self.used()):
            old = self.starts[ticket]
            cells.extend(self.cells[old:old + span])
            self.starts[ticket] = start
        self.free = cut_up(len(cells), len(self.cells))
        self.cells = cells + [0] * (len(self.cells) - len(cells))

    def check_ticket(self, ticket):
        if ticket not in self.starts:
            raise NoTicket("no ticket of this number is out")

    def check_place(self, ticket, place):
        self.check_ticket(ticket)
        if place < 0 or place >= self.places[ticket]:
            raise NoPlace("the ticket has no such place")

    def span_of(self, ticket):
        return span_for(self.places[ticket])

    def held_by(self, ticket):
        start = self.starts[ticket]
        return self.cells[start:start + self.places[ticket]]

    def fill(self, start, numbers):
        for place, number in enumerate(numbers):
            self.cells[start + place] = number

    def set_free(self, start, span):
        self.free = given_back(self.free, start, span)

    def take(self, span):
        # This stands ahead of all that changes something, so that a refused deed changes nothing.
        if sum([block[1] for block in self.free]) < span:
            raise NoRoom("there are too few free cells")
        if best_of(self.free, span) is None:
            self.pack()
        found = taken(self.free, span)
        self.free = found[1]
        return found[0]

    def move(self, ticket, span):
        start = self.take(span)
        # The taking may have packed the loft, so only now is it known where the old block begins.
        self.set_free(self.starts[ticket], self.span_of(ticket))
        self.starts[ticket] = start

    def halve(self, ticket, span):
        size = self.span_of(ticket)
        while size > span:
            size = size // 2
            self.set_free(self.starts[ticket] + size, size)

    def used(self):
        blocks = [(ticket, self.starts[ticket], self.span_of(ticket)) for ticket in self.starts]
        return sorted(blocks, key=lambda each: each[1])

    def plan(self):
        return (self.used(), list(self.free))

    def holdings(self):
        return [(ticket, self.held_by(ticket)) for ticket in sorted(self.starts)]
