"""How blocks in use are laid anew, one straight behind the other."""


def packed(blocks):
    laid = []
    end = 0
    # With the greater spans ahead, whatever lies before a block is a multiple of its span.
    for block in sorted(blocks, key=lambda each: (-each[2], each[1])):
        laid.append((block[0], end, block[2]))
        end = end + block[2]
    return laid
