"""The refusals: one class for each, all of them under LoftError."""


class LoftError(ValueError):
    pass


class NoHeight(LoftError):
    pass


class NoTicket(LoftError):
    pass


class NoNeed(LoftError):
    pass


class NoPlace(LoftError):
    pass


class NoRoom(LoftError):
    pass
