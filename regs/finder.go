package regs

// maxPuts ends a search that goes back and forth. It is far above the number of statements, and so never ends one that need not go back.
const maxPuts = 1000

// finder puts statements in at places, one by one, and goes back where there is no place left for one of them.
//
// It need not go back where no distance is barred but those up to 3, either way, and there are five registers or more for each statement: then 4 on from the highest place so far is free for each statement that is left, and none is put in higher than that.
type finder struct {
	bars   bars
	in     []bool
	places []int
	// barred has of each statement, and of each place, how many of those that are in bar it.
	barred [][]int
	puts   int
}

func newFinder(b bars) *finder {
	f := &finder{bars: b, in: make([]bool, len(b)), places: make([]int, len(b))}
	for at := range len(b) {
		f.barred = append(f.barred, make([]int, len(b[at][at])))
	}
	return f
}

// findPlaces tells a place for each statement, and whether they were found.
func findPlaces(b bars) ([]int, bool) {
	for at := range len(b) {
		if b.barsItself(at) {
			return nil, false
		}
	}
	f := newFinder(b)
	// Only how far places are apart counts: if there are any, there are also such with one at 0.
	f.put(0, 0)
	return f.places, f.fill()
}

// fill puts in all that are not, and tells whether it could.
func (f *finder) fill() bool {
	at, some := f.tightest()
	if !some {
		return true
	}
	for place, n := range f.barred[at] {
		if n > 0 {
			continue
		}
		if f.puts == maxPuts {
			return false
		}
		f.put(at, place)
		if f.fill() {
			return true
		}
		f.takeOut(at)
	}
	return false
}

// tightest tells which of the statements that are not in has the fewest places left, and whether there is one.
func (f *finder) tightest() (int, bool) {
	found, fewest, some := 0, 0, false
	for at := range len(f.in) {
		if f.in[at] {
			continue
		}
		n := f.free(at)
		if !some || n < fewest {
			found, fewest, some = at, n, true
		}
	}
	return found, some
}

// free tells how many places are left for a statement.
func (f *finder) free(at int) int {
	free := 0
	for _, n := range f.barred[at] {
		if n == 0 {
			free++
		}
	}
	return free
}

func (f *finder) put(at, place int) {
	f.puts++
	f.in[at], f.places[at] = true, place
	f.count(at, 1)
}

func (f *finder) takeOut(at int) {
	f.in[at] = false
	f.count(at, -1)
}

// count adds by to each place of each statement that the one at m bars.
func (f *finder) count(m, by int) {
	for at := range len(f.barred) {
		counts := f.barred[at]
		for on, barred := range f.bars[at][m] {
			if barred {
				counts[left(f.places[m]+on, len(counts))] += by
			}
		}
	}
}
