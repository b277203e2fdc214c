"""Loftstore: a loft of cells, let in blocks that are halved, joined and packed."""
