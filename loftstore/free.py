"""The list of free blocks: how one is taken from it, and how one comes back to it."""

from loftstore.errors import NoRoom
from loftstore.spans import mate_of


def best_of(free, span):
    best = None
    for block in free:
        # The list goes from the least start on, so of equal spans the one that was met first stays.
        if block[1] >= span and (best is None or block[1] < best[1]):
            best = block
    return best


def without(free, gone):
    return [block for block in free if block != gone]


def taken(free, span):
    best = best_of(free, span)
    if best is None:
        raise NoRoom("no free block is great enough")
    start = best[0]
    size = best[1]
    left = without(free, best)
    while size > span:
        size = size // 2
        # No join is looked for: the mate of this upper half is the lower half, which is not free.
        left.append((start + size, size))
    return (start, sorted(left))


def given_back(free, start, span):
    begin = start
    size = span
    left = list(free)
    mate = (mate_of(begin, size), size)
    while mate in left:
        left = without(left, mate)
        begin = min(begin, mate[0])
        size = size * 2
        mate = (mate_of(begin, size), size)
    left.append((begin, size))
    return sorted(left)
