"""Trees of folders.

A tree is a dict from folders to that under which each of them stands. Nothing here
changes a tree that is handed in.
"""

TOP = 0


def way_up(tree, folder):
    """The list from a folder, or the top, up to the top or to a folder that stands nowhere."""
    way = [folder]
    while way[-1] in tree:
        way.append(tree[way[-1]])
    return way


def below(tree, folder, other):
    """Whether a folder, or the top, stands below another folder, or below the top."""
    return other in way_up(tree, folder)[1:]


def closes(tree, folder, under):
    """Whether it closes a ring to put the folder under the other one."""
    return folder in way_up(tree, under)


def put(tree, folder, under):
    """The tree in which the folder is put under the other one, where that closes no ring."""
    made = dict(tree)
    if not closes(tree, folder, under):
        made[folder] = under
    return made


def children(tree, folder):
    """Those that stand straight under a folder, or the top, rising."""
    return sorted([child for child in tree if tree[child] == folder])


def rows(tree):
    """The pairs (depth, folder) of all below the top, each with what is below it ahead of the next."""
    falling = _children_falling(tree)
    found = []
    # A list instead of recursion, so that no depth of a tree is too great for Python.
    waiting = [(1, folder) for folder in falling.get(TOP, [])]
    while waiting:
        depth, folder = waiting.pop()
        found.append((depth, folder))
        waiting.extend([(depth + 1, child) for child in falling.get(folder, [])])
    return found


def _children_falling(tree):
    """For each that has some, the list of those straight under it, falling."""
    falling = {}
    for folder in sorted(tree, reverse=True):
        falling.setdefault(tree[folder], []).append(folder)
    return falling
