package build

import (
	"fmt"
	"math"
	"reflect"
	"slices"
	"testing"

	"roundelay/api"
	"roundelay/bound"
	"roundelay/check"
	"roundelay/kernel"
	"roundelay/target"
)

// wild are ints that no limit takes in.
var wild = []int{math.MinInt, math.MinInt + 1, math.MinInt32, -256, 1<<16 + 1, math.MaxInt32, 1<<32 + 1, math.MaxInt - 1, math.MaxInt}

func machine() api.Target {
	return api.Target{Units: [3]int{2, 1, 1}, Wait: [3]int{2, 5, 3}, Regs: 30}
}

// alike has as many units of each class, and waits as long for each of them.
func alike(units, wait, regs int) api.Target {
	return api.Target{Units: [3]int{units, units, units}, Wait: [3]int{wait, wait, wait}, Regs: regs}
}

func ref(at, back int) api.Ref { return api.Ref{At: at, Back: back} }

func turn() api.Stmt { return api.Stmt{Op: api.LTurn} }

func add(a, b api.Ref) api.Stmt { return api.Stmt{Op: api.LOp + api.OpAdd, A: a, B: b} }

func mul(a, b api.Ref) api.Stmt { return api.Stmt{Op: api.LOp + api.OpMul, A: a, B: b} }

// sum is what the turns' numbers are together.
func sum() api.Loop {
	return api.Loop{Body: []api.Stmt{turn(), add(ref(0, 0), ref(1, 1))}, Outs: []int{1}}
}

// sample has a statement of each kind, and looks at its own turn, at itself, and at what stands behind.
func sample() api.Loop {
	return api.Loop{
		Logs: []int{0, 3},
		Body: []api.Stmt{
			{Op: api.LConst, N: -7},
			{Op: api.LTurn},
			{Op: api.LLoad, Array: 1, Step: 2, Plus: -1},
			{Op: api.LOp + api.OpMul, A: ref(2, 0), B: ref(4, 1)},
			{Op: api.LStore, A: ref(3, 0), Array: 1, Step: -1, Plus: 5},
			{Op: api.LOp + api.OpLess, A: ref(5, 3), B: ref(0, 0)},
		},
		Outs: []int{0, 5},
	}
}

// waits are those of all statements together.
func waits(l api.Loop, m api.Target) int {
	all := 0
	for _, s := range l.Body {
		all += target.Wait(m, s.Op)
	}
	return all
}

// bounds tells the greater one of both.
func bounds(t *testing.T, l api.Loop, m api.Target) int {
	t.Helper()
	units, rounds, code := bound.Bound(l, m)
	if code != api.OK {
		t.Fatalf("no bounds of %+v, %+v", l, m)
	}
	return max(units, rounds)
}

// expectAnswer holds the answer to a loop and a machine that may be against what L1 says of all of them, and tells whether there is a kernel.
func expectAnswer(t *testing.T, name string, l api.Loop, m api.Target) (api.Kernel, []int, bool) {
	t.Helper()
	k, order, code := Build(l, m)
	least, most := bounds(t, l, m), waits(l, m)
	switch {
	case code == api.ErrSize:
		if !reflect.DeepEqual(k, api.Kernel{}) || len(order) != 0 {
			t.Errorf("%s: none found, and yet %+v, %v: %+v, %+v", name, k, order, l, m)
		}
		if m.Regs >= 5*len(l.Body) {
			t.Errorf("%s: none found: %+v, %+v", name, l, m)
		}
		return k, order, false
	case code != api.OK:
		t.Errorf("%s: %+v, %v, code %d: %+v, %+v", name, k, order, code, l, m)
	case !check.Takes(l, m, k, order):
		t.Errorf("%s: not taken: %+v, %v: %+v, %+v", name, k, order, l, m)
	case k.Pace < least || k.Pace > most:
		t.Errorf("%s: pace %d, want one from %d to %d: %+v, %+v", name, k.Pace, least, most, l, m)
	}
	return k, order, true
}

func expectPace(t *testing.T, name string, l api.Loop, m api.Target, pace int) {
	t.Helper()
	if k, _, found := expectAnswer(t, name, l, m); !found || k.Pace != pace {
		t.Errorf("%s: pace %d, want %d: %+v, %+v", name, k.Pace, pace, l, m)
	}
}

func expectNone(t *testing.T, name string, l api.Loop, m api.Target) {
	t.Helper()
	if k, _, found := expectAnswer(t, name, l, m); found {
		t.Errorf("%s: %+v, where there is none: %+v, %+v", name, k, l, m)
	}
}

func expectRefused(t *testing.T, name string, l api.Loop, m api.Target) {
	t.Helper()
	if k, order, code := Build(l, m); code != api.ErrForm || !reflect.DeepEqual(k, api.Kernel{}) || len(order) != 0 {
		t.Errorf("%s: %+v, %v, code %d, want nothing and %d", name, k, order, code, api.ErrForm)
	}
}

func TestLimits(t *testing.T) {
	if api.MaxBody != 16 || api.MaxBack != 3 || api.MaxUnits != 4 || api.MaxWait != 6 || api.MaxRegs != 128 || api.MaxPace != 200 || api.MaxTime != 1000 {
		t.Error("the limits are others than those that these tests were written for")
	}
}

// The kernel's numbers are worked out by hand, where it has no choice: at a pace of 1, its only slot is 0.
func TestBuildOfTheSum(t *testing.T) {
	m := api.Target{Units: [3]int{2, 1, 1}, Wait: [3]int{1, 3, 2}, Regs: 32}
	k, order, found := expectAnswer(t, "the sum", sum(), m)
	if !found || k.Pace != 1 || k.Stages != 2 || !slices.Equal(order, []int{0, 1}) {
		t.Fatalf("%+v, %v", k, order)
	}
	number, adds := k.Ops[0], k.Ops[1]
	if number != (api.Op{Op: api.LTurn, Dest: number.Dest}) {
		t.Errorf("the turn's number: %+v", number)
	}
	reads := api.Op{Stage: 1, Op: api.LOp + api.OpAdd, Dest: adds.Dest, A: (number.Dest + 31) % 32, B: (adds.Dest + 31) % 32}
	if adds != reads {
		t.Errorf("the sum: %+v, want %+v", adds, reads)
	}
	before := [][]int64{{0, 0, 0}, {100, 0, 0}}
	for turns := range api.MaxTurns + 1 {
		regs, _ := check.Enter(sum(), m, k, order, before)
		regs, _, _ = kernel.Run(m, k, regs, nil, turns)
		outs, code := check.Leave(sum(), m, k, order, before, regs, turns)
		if want := int64(100 + turns*(turns-1)/2); code != api.OK || !slices.Equal(outs, []int64{want}) {
			t.Errorf("%d turns: %v, code %d, want %d", turns, outs, code, want)
		}
	}
}

func TestBuildOfTheSample(t *testing.T) {
	for regs := 1; regs <= api.MaxRegs; regs++ {
		m := machine()
		m.Regs = regs
		expectAnswer(t, fmt.Sprint("the sample, ", regs, " registers"), sample(), m)
	}
}

// One statement has no bounds but 1, unless it looks at itself; nor more waits than its own.
func TestBuildOfOneStatement(t *testing.T) {
	for wait := 1; wait <= api.MaxWait; wait++ {
		for regs := 1; regs <= api.MaxRegs; regs++ {
			m := alike(1, wait, regs)
			name := fmt.Sprint("wait ", wait, ", ", regs, " registers")
			expectAnswer(t, name, api.Loop{Body: []api.Stmt{turn()}, Outs: []int{0}}, m)
			expectPace(t, name+", with itself", api.Loop{Body: []api.Stmt{add(ref(0, 1), ref(0, 1))}}, m, wait)
			for back := 2; back <= api.MaxBack; back++ {
				l := api.Loop{Body: []api.Stmt{mul(ref(0, back), ref(0, 1))}, Outs: []int{0}}
				if regs < back {
					expectNone(t, name+", too few for what is there from the beginning on", l, m)
					continue
				}
				expectAnswer(t, name+", far back", l, m)
			}
		}
	}
}

// round is a loop whose statements wait for each other all around, one turn in all: its rounds' bound is all Waits together.
func round(n int) api.Loop {
	l := api.Loop{Body: []api.Stmt{add(ref(n-1, 1), ref(n-1, 1))}, Outs: []int{n - 1}}
	for at := 1; at < n; at++ {
		l.Body = append(l.Body, mul(ref(at-1, 0), ref(at-1, 0)))
	}
	return l
}

// Both edges of L1's paces at once: no other one is left.
func TestBuildWhereTheBoundsAreAllWaits(t *testing.T) {
	for n := 1; n <= api.MaxBody; n++ {
		for wait := 1; wait <= api.MaxWait; wait++ {
			m := api.Target{Units: [3]int{1, 1, 1}, Wait: [3]int{1, wait, 1}, Regs: 5 * n}
			expectPace(t, "a round through all", round(n), m, 1+(n-1)*wait)
			m.Regs = min(5*n+40, api.MaxRegs)
			expectPace(t, "a round through all, more registers", round(n), m, 1+(n-1)*wait)
			m.Regs = 5*n - 1
			expectAnswer(t, "a round through all, a register less", round(n), m)
		}
	}
	expectPace(t, "the slowest of all", round(16), api.Target{Units: [3]int{4, 4, 4}, Wait: [3]int{6, 6, 6}, Regs: 80}, 96)
}

// chain is a loop in which each statement looks at the one ahead of it alone, and no turn at another.
func chain(n int) api.Loop {
	l := api.Loop{Body: []api.Stmt{turn()}, Outs: []int{n - 1}}
	for at := 1; at < n; at++ {
		l.Body = append(l.Body, add(ref(at-1, 0), ref(at-1, 0)))
	}
	return l
}

// With one register no two results may come at once, so that a pace has as many cycles as there are statements: with waits of 1, these are all Waits together, far above the bounds. With more registers a chain gets faster.
func TestBuildAtAllWaits(t *testing.T) {
	for n := 1; n <= api.MaxBody; n++ {
		m := alike(4, 1, 1)
		if least := bounds(t, chain(n), m); least != (n+3)/4 {
			t.Errorf("the bound of a chain of %d is %d", n, least)
		}
		expectPace(t, "one register", chain(n), m, n)
		for m.Regs = 2; m.Regs < 5*n; m.Regs++ {
			expectAnswer(t, fmt.Sprint(n, " statements, ", m.Regs, " registers"), chain(n), m)
		}
	}
}

// What L1 doesn't ask for, but is to be hoped for: with registers enough, chains go at the bounds.
func TestBuildAtTheBounds(t *testing.T) {
	for n := 1; n <= api.MaxBody; n++ {
		for units := 1; units <= api.MaxUnits; units++ {
			for wait := 1; wait <= api.MaxWait; wait++ {
				m := alike(units, wait, 128)
				expectPace(t, "a chain", chain(n), m, (n+units-1)/units)
			}
		}
	}
}

// crowd is a loop in which each result is looked at as far back as is said, by itself and by its neighbour, and is told.
func crowd(n, back int) api.Loop {
	l := api.Loop{}
	for at := range n {
		s := add(ref(at, back), ref((at+1)%n, back))
		if at%3 == 2 {
			s = mul(ref(at, back), ref((at+1)%n, back))
		}
		l.Body = append(l.Body, s)
		l.Outs = append(l.Outs, at)
	}
	return l
}

// Just five registers for each statement are always enough; with fewer, kernels are good ones, or there are none.
func TestBuildOfCrowdsAtFiveTimes(t *testing.T) {
	for n := 1; n <= api.MaxBody; n++ {
		for back := 1; back <= api.MaxBack; back++ {
			for _, wait := range []int{1, 2, 6} {
				l, m := crowd(n, back), alike(1+n%4, wait, 5*n)
				name := fmt.Sprint(n, " statements, back ", back, ", wait ", wait)
				expectAnswer(t, name, l, m)
				m.Regs = 5*n + 1
				expectAnswer(t, name+", a register more", l, m)
				m.Regs = 5*n - 1
				expectAnswer(t, name+", a register less", l, m)
				m.Regs = n * back
				expectAnswer(t, name+", as many as are there from the beginning on", l, m)
				if m.Regs--; m.Regs > 0 {
					expectNone(t, name+", fewer than are there from the beginning on", l, m)
				}
			}
		}
	}
}

// long is a loop with as many results as half says, which are looked at one by one, the first one last, as each statement of the other half waits for the one ahead of it.
func long(half int) api.Loop {
	l := api.Loop{Body: slices.Repeat([]api.Stmt{turn()}, half), Outs: []int{2*half - 1}}
	for at := half; at < 2*half; at++ {
		l.Body = append(l.Body, mul(ref(at-1, 0), ref(2*half-1-at, 0)))
	}
	return l
}

// At the bounds, the longest ones keep more results at once than there are registers, with just five for each statement: a slower kernel is found then.
func TestBuildOfLongLivesAtFiveTimes(t *testing.T) {
	slower := 0
	for half := 1; half <= api.MaxBody/2; half++ {
		for wait := 1; wait <= api.MaxWait; wait++ {
			l, m := long(half), alike(4, wait, 10*half)
			k, _, _ := expectAnswer(t, fmt.Sprint("long lives, ", half, " of them, wait ", wait), l, m)
			if k.Pace > bounds(t, l, m) {
				slower++
			}
		}
	}
	if slower == 0 {
		t.Error("too little was tried: none is slower than the bounds")
	}
}

// Each of Outs is in a register of its own at the end: with fewer there is no kernel.
func TestBuildFindsNone(t *testing.T) {
	for n := 2; n <= api.MaxBody; n++ {
		l := api.Loop{Body: slices.Repeat([]api.Stmt{turn()}, n)}
		for at := range n {
			l.Outs = append(l.Outs, at)
		}
		for regs := 1; regs < n; regs++ {
			expectNone(t, fmt.Sprint(n, " outs, ", regs, " registers"), l, alike(2, 3, regs))
		}
		expectAnswer(t, fmt.Sprint(n, " outs, as many registers"), l, alike(2, 3, n))
	}
}

func TestBuildRefusesLoops(t *testing.T) {
	spoil := map[string]func(*api.Loop){
		"no loop at all":     func(l *api.Loop) { *l = api.Loop{} },
		"no such op":         func(l *api.Loop) { l.Body[1].Op = 0 },
		"no such operation":  func(l *api.Loop) { l.Body[3].Op = api.LOp + api.OpSame + 1 },
		"a field not named":  func(l *api.Loop) { l.Body[1].N = 1 },
		"a ref not named":    func(l *api.Loop) { l.Body[4].B = ref(1, 0) },
		"a ref to itself":    func(l *api.Loop) { l.Body[3].A = ref(3, 0) },
		"a ref on":           func(l *api.Loop) { l.Body[3].A = ref(4, 0) },
		"a ref too far back": func(l *api.Loop) { l.Body[3].A = ref(0, 4) },
		"a ref ahead":        func(l *api.Loop) { l.Body[3].A = ref(0, -1) },
		"a ref to none":      func(l *api.Loop) { l.Body[3].B = ref(6, 1) },
		"no such array":      func(l *api.Loop) { l.Body[2].Array = 2 },
		"a step beyond":      func(l *api.Loop) { l.Body[2].Step = 65 },
		"a log beyond":       func(l *api.Loop) { l.Logs[0] = 6 },
		"too many arrays":    func(l *api.Loop) { l.Logs = []int{0, 3, 0, 0} },
		"outs not rising":    func(l *api.Loop) { l.Outs = []int{1, 1} },
		"outs beyond":        func(l *api.Loop) { l.Outs = []int{6} },
		"outs below 0":       func(l *api.Loop) { l.Outs = []int{-1} },
		"very many outs":     func(l *api.Loop) { l.Outs = make([]int, 1<<20) },
		"too many":           func(l *api.Loop) { l.Body = slices.Repeat([]api.Stmt{turn()}, 17) },
		"very many":          func(l *api.Loop) { l.Body = slices.Repeat([]api.Stmt{turn()}, 1<<16) },
	}
	for _, n := range wild {
		spoil[fmt.Sprint("a wild log ", n)] = func(l *api.Loop) { l.Logs[1] = n }
		spoil[fmt.Sprint("a wild ref ", n)] = func(l *api.Loop) { l.Body[3].A.At = n }
		spoil[fmt.Sprint("a wild back ", n)] = func(l *api.Loop) { l.Body[3].A.Back = n }
		spoil[fmt.Sprint("a wild array ", n)] = func(l *api.Loop) { l.Body[4].Array = n }
		spoil[fmt.Sprint("a wild step ", n)] = func(l *api.Loop) { l.Body[4].Step = n }
		spoil[fmt.Sprint("a wild op ", n)] = func(l *api.Loop) { l.Body[3].Op = n }
		spoil[fmt.Sprint("a wild out ", n)] = func(l *api.Loop) { l.Outs[1] = n }
	}
	few := machine()
	few.Regs = 1
	expectNone(t, "one register", sample(), few)
	for name, change := range spoil {
		l := sample()
		change(&l)
		expectRefused(t, name, l, machine())
		expectRefused(t, name+", and too few registers", l, few)
		expectRefused(t, name+", and no machine", l, api.Target{})
	}
}

func TestBuildRefusesMachines(t *testing.T) {
	all := []api.Target{{}}
	for class := range 3 {
		for _, n := range append([]int{-1, 0, 7}, wild...) {
			m := machine()
			m.Units[class] = n
			all = append(all, m)
			m = machine()
			m.Wait[class] = n
			all = append(all, m)
		}
		m := machine()
		m.Units[class] = 5
		all = append(all, m)
	}
	for _, n := range append([]int{-1, 0, 129}, wild...) {
		m := machine()
		m.Regs = n
		all = append(all, m)
	}
	for _, m := range all {
		expectRefused(t, "no machine", sample(), m)
		expectRefused(t, "no machine, no edge", api.Loop{Body: []api.Stmt{turn()}}, m)
	}
}

// behind lays list at the beginning of a longer one, so that more stands behind its length.
func behind[T any](list []T, more ...T) []T {
	return slices.Concat(list, more)[: len(list) : len(list)+len(more)]
}

func TestBuildReadsAndWritesNothingBehindALength(t *testing.T) {
	want, wanted, _ := Build(sample(), machine())
	l := sample()
	more := add(ref(0, 0), ref(6, 1))
	l.Logs, l.Body, l.Outs = behind(l.Logs, 9), behind(l.Body, more), behind(l.Outs, 2)
	if k, order, code := Build(l, machine()); code != api.OK || !reflect.DeepEqual(k, want) || !slices.Equal(order, wanted) {
		t.Errorf("more behind the lengths: %+v, %v, code %d, want %+v, %v", k, order, code, want, wanted)
	}
	if l.Logs[:3][2] != 9 || l.Body[:7][6] != more || l.Outs[:3][2] != 2 {
		t.Errorf("written behind the lengths: %+v", l)
	}
	l.Body = behind(sample().Body[:5], sample().Body[5])
	expectRefused(t, "a statement too few, that stands behind the length", l, machine())
}

// An answer is nobody else's: what is written into it changes neither what was handed in nor what is answered next.
func TestBuildAnswersNewMemory(t *testing.T) {
	l := sample()
	first, ordered, _ := Build(l, machine())
	want, wanted := first, slices.Clone(ordered)
	want.Ops = slices.Clone(first.Ops)
	for range 3 {
		k, order, code := Build(l, machine())
		if code != api.OK || !reflect.DeepEqual(k, want) || !slices.Equal(order, wanted) {
			t.Errorf("once more: %+v, %v, code %d, want %+v, %v", k, order, code, want, wanted)
		}
		for at := range k.Ops[:cap(k.Ops)] {
			k.Ops[:cap(k.Ops)][at] = api.Op{Op: 99}
		}
		for at := range order[:cap(order)] {
			order[:cap(order)][at] = 99
		}
	}
	if !reflect.DeepEqual(first, want) || !slices.Equal(ordered, wanted) || !reflect.DeepEqual(l, sample()) {
		t.Errorf("changed: %+v, %v, %+v", first, ordered, l)
	}
}
