"""What the tests share: trees worked out another way than the program's, and things to hand in."""

GREATEST = 10 ** 60


def gone_through(moves):
    """The tree of some moves and the pairs (move, way), by the folders below instead of the way up."""
    tree, steps = {}, []
    for move in sorted(moves, key=lambda move: move[:2]):
        folder, under = move[2:]
        if under == folder or under in all_below(tree, folder):
            way = [under]
            while way[-1] != folder:
                way.append(tree[way[-1]])
            steps.append((move, way))
        else:
            tree = {**tree, folder: under}
            steps.append((move, []))
    return tree, steps


def all_below(tree, folder):
    found = {child for child in tree if tree[child] == folder}
    while True:
        more = {child for child in tree if tree[child] in found} - found
        if not more:
            return found
        found |= more


def has_ring(tree):
    return any(folder in all_below(tree, folder) for folder in tree)


class Numbers:
    """Numbers in no order to be seen, the same ones at each run."""

    def __init__(self, seed):
        self.last = seed

    def below(self, bound):
        self.last = (self.last * 6364136223846793005 + 1442695040888963407) % 2 ** 64
        return (self.last >> 33) % bound

    def mixed(self, things):
        things, out = list(things), []
        while things:
            out.append(things.pop(self.below(len(things))))
        return out


def many_moves(numbers, many, folders, hands=4):
    """As many moves as wanted: one for each time and hand, of a few folders."""
    return [(1 + k // hands, k % hands, 1 + numbers.below(folders), numbers.below(folders + 1)) for k in range(many)]


def no_moves(move):
    """Things that are no move though some are near to the one that is handed in."""
    things = [None, True, False, 0, 7, -1, "", "1 0 5 0", b"", [], {}, (), object(), int, len]
    things += [list(move), dict.fromkeys(move), " ".join(map(str, move)), (move,), move[:3], move + (1,), move[1:]]
    for place, least in enumerate((1, 0, 1, 0)):
        for wrong in (least - 1, -GREATEST, GREATEST + 1, 10 ** 5000, True, False, None, "1", "", b"1", (1,), [1], {}):
            things.append(move[:place] + (wrong,) + move[place + 1:])
    return things


NO_NUMBERS = [-1, -GREATEST, True, False, None, "", "0", "1", b"0", [], [0], (), (0,), {}, {0: 0}, {0}, object(), int]
