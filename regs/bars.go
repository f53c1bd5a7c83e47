package regs

// bars tells of two statements, and of each distance, whether the first one's place may not be so far on from the second one's. A place is the register of a result of the turn 0; of each turn on it is one register on.
type bars [][][]bool

// barsOf bars all distances at which a result, or what is there from the beginning on, would be lost.
func barsOf(lives []life, pace, regs int) bars {
	b := newBars(len(lives), regs)
	for a := range len(lives) {
		for m := range len(lives) {
			first, last := turnsWithin(lives, a, m, pace)
			// Of more turns than there are registers each register has had one.
			last = min(last, first+regs-1)
			for turn := first; turn <= last; turn++ {
				b.bar(a, m, turn)
			}
			b.barStarts(lives, a, m)
		}
	}
	return b
}

func newBars(body, regs int) bars {
	b := make(bars, body)
	for a := range body {
		b[a] = make([][]bool, body)
		for m := range body {
			b[a][m] = make([]bool, regs)
		}
	}
	return b
}

// bar bars a distance, and the same one as the other statement sees it.
func (b bars) bar(a, m, on int) {
	there, back := b[a][m], b[m][a]
	there[left(on, len(there))] = true
	back[left(-on, len(back))] = true
}

// barStarts keeps apart what is there from the beginning on: each such number has a register of its own.
func (b bars) barStarts(lives []life, a, m int) {
	for q := range lives[a].back {
		for r := range lives[m].back {
			if a != m || q != r {
				b.bar(a, m, q-r)
			}
		}
	}
}

// barsItself tells whether a statement's own results get into each other's way, wherever they are.
func (b bars) barsItself(at int) bool {
	return b[at][at][0]
}
