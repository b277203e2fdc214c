"""A loft told in the plainest way, to hold the program against: who has which cell, and a list for each ticket."""


def least_span(many):
    span = 1
    while span < many:
        span *= 2
    return span


def free_blocks(owners, start, span):
    # No two free blocks are mates, so a block without an owner in it is free as a whole.
    if all(owner is None for owner in owners[start:start + span]):
        return [(start, span)]
    if span == 1:
        return []
    half = span // 2
    return free_blocks(owners, start, half) + free_blocks(owners, start + half, half)


class PlainLoft:
    def __init__(self, height):
        self.owners = [None] * 2 ** height
        self.numbers = {}
        self.coming = 0
        self.packings = 0

    def free(self):
        return free_blocks(self.owners, 0, len(self.owners))

    def used(self):
        blocks = [(ticket, self.owners.index(ticket), self.owners.count(ticket)) for ticket in self.numbers]
        return sorted(blocks, key=lambda block: block[1])

    def plan(self):
        return (self.used(), self.free())

    def behind(self):
        return [(ticket, list(self.numbers[ticket])) for ticket in sorted(self.numbers)]

    def refusal(self, deed):
        name, rest = deed[0], deed[1:]
        if name in ("give", "write", "read", "fit") and rest[0] not in self.numbers:
            return "no ticket"
        if name in ("ask", "fit") and rest[-1] < 1:
            return "no need"
        if name in ("write", "read") and not 0 <= rest[1] < len(self.numbers[rest[0]]):
            return "no place"
        if name in ("ask", "fit"):
            span = least_span(rest[-1])
            greater = name == "ask" or span > self.owners.count(rest[0])
            if greater and self.owners.count(None) < span:
                return "no room"
        return None

    def do(self, deed):
        refusal = self.refusal(deed)
        if refusal is not None:
            return refusal
        answer = getattr(self, "do_" + deed[0])(*deed[1:])
        return "done" if answer is None else answer

    def do_ask(self, many):
        ticket = self.coming
        self.coming += 1
        self.own(ticket, least_span(many))
        self.numbers[ticket] = [0] * many
        return ticket

    def do_give(self, ticket):
        del self.numbers[ticket]
        self.owners = [None if owner == ticket else owner for owner in self.owners]

    def do_write(self, ticket, place, number):
        self.numbers[ticket][place] = number

    def do_read(self, ticket, place):
        return self.numbers[ticket][place]

    def do_fit(self, ticket, many):
        span = least_span(many)
        if span > self.owners.count(ticket):
            self.own("new", span)
            self.owners = [None if owner == ticket else owner for owner in self.owners]
            self.owners = [ticket if owner == "new" else owner for owner in self.owners]
        else:
            start = self.owners.index(ticket)
            for cell in range(start + span, start + self.owners.count(ticket)):
                self.owners[cell] = None
        numbers = self.numbers[ticket]
        self.numbers[ticket] = (numbers + [0] * many)[:many] if many > len(numbers) else numbers[:many]

    def do_pack(self):
        self.packings += 1
        row = []
        for ticket, start, span in sorted(self.used(), key=lambda block: block[2], reverse=True):
            row += [ticket] * span
        self.owners = row + [None] * (len(self.owners) - len(row))

    def own(self, owner, span):
        enough = [(block[1], block[0]) for block in self.free() if block[1] >= span]
        if not enough:
            self.do_pack()
            enough = [(block[1], block[0]) for block in self.free() if block[1] >= span]
        start = min(enough)[1]
        self.owners[start:start + span] = [owner] * span
