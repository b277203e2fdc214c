"""A day: deeds that are done one after the other in a loft that is empty at first."""

from loftstore.errors import NoNeed, NoPlace, NoRoom, NoTicket
from loftstore.loft import Loft


def done(loft, deed):
    name = deed[0]
    if name == "ask":
        return loft.ask(deed[1])
    if name == "read":
        return loft.read(deed[1], deed[2])
    if name == "give":
        loft.give(deed[1])
    elif name == "write":
        loft.write(deed[1], deed[2], deed[3])
    elif name == "fit":
        loft.fit(deed[1], deed[2])
    elif name == "pack":
        loft.pack()
    return "done"


def answer_to(loft, deed):
    try:
        return done(loft, deed)
    except NoTicket:
        return "no ticket"
    except NoNeed:
        return "no need"
    except NoPlace:
        return "no place"
    except NoRoom:
        return "no room"


def answers(height, deeds):
    loft = Loft(height)
    return [answer_to(loft, deed) for deed in deeds]


def plans(height, deeds):
    loft = Loft(height)
    stages = []
    for deed in deeds:
        answer_to(loft, deed)
        stages.append(loft.plan())
    return stages


def behind(height, deeds):
    loft = Loft(height)
    for deed in deeds:
        answer_to(loft, deed)
    return loft.holdings()
