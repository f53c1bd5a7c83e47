package target

import (
	"math"
	"testing"

	"roundelay/api"
)

// wild are ints that no limit takes in; some of them would be within one if they were cut to fewer bits.
var wild = []int{math.MinInt, math.MinInt + 1, math.MinInt + 2, math.MinInt32, -256, -255, 257, 1<<16 + 1, math.MaxInt32, 1<<32 + 1, math.MaxInt - 1, math.MaxInt}

// field is one number of a machine, and its greatest.
type field struct {
	name string
	of   func(t *api.Target) *int
	high int
}

func fields() []field {
	classes := []string{"plain", "mul", "memory"}
	all := []field{{"Regs", func(t *api.Target) *int { return &t.Regs }, api.MaxRegs}}
	for class, name := range classes {
		all = append(all,
			field{"Units of " + name, func(t *api.Target) *int { return &t.Units[class] }, api.MaxUnits},
			field{"Wait of " + name, func(t *api.Target) *int { return &t.Wait[class] }, api.MaxWait})
	}
	return all
}

func sample() api.Target {
	return api.Target{Units: [3]int{2, 1, 3}, Wait: [3]int{1, 5, 2}, Regs: 32}
}

// ops are all Ops of statements, and what is none.
func ops() []int {
	all := append([]int{256 + api.LLoad, 1<<32 + api.LLoad, 1<<32 + api.LOp + api.OpMul, math.MinInt + api.LStore}, wild...)
	for op := -300; op <= 300; op++ {
		all = append(all, op)
	}
	return all
}

// classOf is told here once more, by a table, so that a slip in num is seen too.
func classOf(op int) int {
	return map[int]int{3: 2, 4: 2, 13: 1}[op]
}

func expectMay(t *testing.T, name string, m api.Target, want bool) {
	t.Helper()
	if got := May(m); got != want {
		t.Errorf("%s: May = %v, want %v: %+v", name, got, want, m)
	}
}

func expectWaits(t *testing.T, name string, m api.Target, may bool) {
	t.Helper()
	for _, op := range ops() {
		want := 0
		if may {
			want = m.Wait[classOf(op)]
		}
		if got := Wait(m, op); got != want {
			t.Errorf("%s: Wait of the Op %d = %d, want %d: %+v", name, op, got, want, m)
		}
	}
}

func TestLimits(t *testing.T) {
	if api.MaxUnits != 4 || api.MaxWait != 6 || api.MaxRegs != 128 {
		t.Error("the limits are others than those that these tests were written for")
	}
}

func TestMayOrdinary(t *testing.T) {
	expectMay(t, "a machine", sample(), true)
	expectMay(t, "the least of all", api.Target{Units: [3]int{1, 1, 1}, Wait: [3]int{1, 1, 1}, Regs: 1}, true)
	expectMay(t, "the greatest of all", api.Target{Units: [3]int{4, 4, 4}, Wait: [3]int{6, 6, 6}, Regs: 128}, true)
	expectMay(t, "no machine at all", api.Target{}, false)
	expectMay(t, "units alone", api.Target{Units: [3]int{1, 1, 1}}, false)
	expectMay(t, "waits alone", api.Target{Wait: [3]int{1, 1, 1}}, false)
	expectMay(t, "registers alone", api.Target{Regs: 1}, false)
}

func TestMayEachNumberByItself(t *testing.T) {
	for _, f := range fields() {
		for n := -300; n <= 300; n++ {
			m := sample()
			*f.of(&m) = n
			expectMay(t, f.name, m, 1 <= n && n <= f.high)
		}
		for _, n := range wild {
			m := sample()
			*f.of(&m) = n
			expectMay(t, f.name+", far beyond", m, false)
		}
	}
}

// Each number goes just below, to, and just beyond its edges, with all others at theirs.
func TestMayEdgesTogether(t *testing.T) {
	all := fields()
	var walk func(at int, m api.Target, may bool)
	walk = func(at int, m api.Target, may bool) {
		if at == len(all) {
			expectMay(t, "at edges", m, may)
			return
		}
		f := all[at]
		for _, n := range []int{0, 1, f.high, f.high + 1} {
			*f.of(&m) = n
			walk(at+1, m, may && 1 <= n && n <= f.high)
		}
	}
	walk(0, api.Target{}, true)
}

func TestWaitOrdinary(t *testing.T) {
	m := sample()
	cases := []struct {
		name     string
		op, want int
	}{
		{"a constant", api.LConst, 1},
		{"the turn", api.LTurn, 1},
		{"a load", api.LLoad, 2},
		{"a store", api.LStore, 2},
		{"a sum", api.LOp + api.OpAdd, 1},
		{"a product", api.LOp + api.OpMul, 5},
		{"the last operation", api.LOp + api.OpSame, 1},
		{"an operation without LOp, which is a load's number", api.OpMul, 2},
		{"no statement", 0, 1},
		{"far beyond", math.MaxInt, 1},
		{"far below 0", math.MinInt, 1},
	}
	for _, c := range cases {
		if got := Wait(m, c.op); got != c.want {
			t.Errorf("%s: Wait = %d, want %d", c.name, got, c.want)
		}
	}
}

func TestWaitOfEachOp(t *testing.T) {
	expectWaits(t, "a machine", sample(), true)
	for a := 1; a <= api.MaxWait; a++ {
		for b := 1; b <= api.MaxWait; b++ {
			m := sample()
			m.Wait = [3]int{a, b, a%api.MaxWait + 1}
			expectWaits(t, "waits", m, true)
		}
	}
}

// A machine that may not be has no waits, whichever number is wrong and whichever class is asked for.
func TestWaitOfWhatMayNotBe(t *testing.T) {
	expectWaits(t, "no machine at all", api.Target{}, false)
	for _, f := range fields() {
		for _, n := range append([]int{-1, 0, f.high + 1}, wild...) {
			m := sample()
			*f.of(&m) = n
			expectWaits(t, f.name, m, false)
		}
		for _, n := range []int{1, f.high} {
			m := sample()
			*f.of(&m) = n
			expectWaits(t, f.name, m, true)
		}
	}
}
