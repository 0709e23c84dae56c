"""Treemove: one tree of folders, moved about by many hands."""
