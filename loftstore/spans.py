"""Spans, and the blocks that they make: plain reckoning that refuses nothing."""


def span_for(many):
    span = 1
    while span < many:
        span = span * 2
    return span


def mate_of(start, span):
    # A block that begins at a multiple of twice its span is a lower half.
    if start % (span * 2) == 0:
        return start + span
    return start - span


def greatest_span(start, stop):
    # Where a span fits, each lesser one fits too, so the first that doesn't ends the search.
    span = 1
    while start % (span * 2) == 0 and start + span * 2 <= stop:
        span = span * 2
    return span


def cut_up(start, stop):
    blocks = []
    begin = start
    while begin < stop:
        span = greatest_span(begin, stop)
        blocks.append((begin, span))
        begin = begin + span
    return blocks
