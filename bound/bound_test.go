package bound

import (
	"fmt"
	"math"
	"reflect"
	"slices"
	"testing"

	"roundelay/api"
)

// wild are ints that no limit takes in.
var wild = []int{math.MinInt, math.MinInt + 1, math.MinInt32, -256, 257, 1<<16 + 1, math.MaxInt32, 1<<32 + 1, math.MaxInt - 1, math.MaxInt}

// machine has units and waits that differ from class to class.
func machine() api.Target {
	return api.Target{Units: [3]int{3, 1, 2}, Wait: [3]int{2, 5, 3}, Regs: 32}
}

func ref(at, back int) api.Ref { return api.Ref{At: at, Back: back} }

func turn() api.Stmt { return api.Stmt{Op: api.LTurn} }

func add(a, b api.Ref) api.Stmt { return api.Stmt{Op: api.LOp + api.OpAdd, A: a, B: b} }

func mul(a, b api.Ref) api.Stmt { return api.Stmt{Op: api.LOp + api.OpMul, A: a, B: b} }

func load(step, plus int) api.Stmt { return api.Stmt{Op: api.LLoad, Step: step, Plus: plus} }

func store(step, plus int, a api.Ref) api.Stmt {
	return api.Stmt{Op: api.LStore, Step: step, Plus: plus, A: a}
}

func boundOf(t *testing.T, name string, l api.Loop, m api.Target) (units, rounds int) {
	t.Helper()
	units, rounds, code := Bound(l, m)
	if code != api.OK {
		t.Fatalf("%s: code %d of %+v, %+v", name, code, l, m)
	}
	return units, rounds
}

func expectUnits(t *testing.T, name string, l api.Loop, m api.Target, want int) {
	t.Helper()
	if got, _ := boundOf(t, name, l, m); got != want {
		t.Errorf("%s: units %d, want %d: %+v, %+v", name, got, want, l, m)
	}
}

func expectRounds(t *testing.T, name string, l api.Loop, m api.Target, want int) {
	t.Helper()
	if _, got := boundOf(t, name, l, m); got != want {
		t.Errorf("%s: rounds %d, want %d: %+v, %+v", name, got, want, l, m)
	}
}

func expectRefused(t *testing.T, name string, l api.Loop, m api.Target) {
	t.Helper()
	if units, rounds, code := Bound(l, m); units != 0 || rounds != 0 || code != api.ErrForm {
		t.Errorf("%s: %d, %d, code %d, want 0, 0 and ErrForm", name, units, rounds, code)
	}
}

func TestLimits(t *testing.T) {
	if api.MaxBody != 16 || api.MaxLog != 5 || api.MaxBack != 3 || api.MaxUnits != 4 || api.MaxWait != 6 {
		t.Error("the limits are others than those that these tests were written for")
	}
}

// mixed has so many statements of each class, by turns.
func mixed(count [3]int) []api.Stmt {
	kinds := [3]api.Stmt{{Op: api.LConst, N: 4}, mul(ref(0, 3), ref(0, 3)), load(1, 0)}
	body := []api.Stmt{}
	for i := range api.MaxBody {
		for class, n := range count {
			if i < n {
				body = append(body, kinds[class])
			}
		}
	}
	return body
}

// How many there are of a class, on every number of units: the least pace is told by multiplying, as the chapter says it.
func TestUnitsOfEachClass(t *testing.T) {
	for n := 1; n <= api.MaxBody; n++ {
		for units := 1; units <= api.MaxUnits; units++ {
			want := 1
			for want*units < n {
				want++
			}
			of := [3][]api.Stmt{slices.Repeat([]api.Stmt{turn()}, n), slices.Repeat([]api.Stmt{mul(ref(0, 3), ref(0, 3))}, n), slices.Repeat([]api.Stmt{load(1, 0)}, n)}
			for class, body := range of {
				for _, others := range []int{1, api.MaxUnits} {
					m := api.Target{Units: [3]int{others, others, others}, Wait: [3]int{1, 1, 1}, Regs: 1}
					m.Units[class] = units
					expectUnits(t, fmt.Sprintf("%d of the class %d", n, class), api.Loop{Logs: []int{0}, Body: body}, m, want)
				}
			}
		}
	}
}

func TestUnitsOfClassesTogether(t *testing.T) {
	cases := []struct {
		count, units [3]int
		want         int
	}{
		{[3]int{1, 0, 0}, [3]int{1, 1, 1}, 1},
		{[3]int{1, 1, 1}, [3]int{1, 1, 1}, 1},
		{[3]int{5, 2, 1}, [3]int{1, 1, 1}, 5},
		{[3]int{5, 2, 1}, [3]int{4, 1, 1}, 2},
		{[3]int{5, 2, 1}, [3]int{4, 2, 1}, 2},
		{[3]int{4, 2, 1}, [3]int{4, 2, 1}, 1},
		{[3]int{2, 7, 4}, [3]int{1, 3, 1}, 4},
		{[3]int{2, 7, 4}, [3]int{1, 3, 2}, 3},
		{[3]int{2, 7, 4}, [3]int{1, 4, 4}, 2},
		{[3]int{3, 3, 10}, [3]int{4, 4, 3}, 4},
		{[3]int{3, 3, 10}, [3]int{1, 2, 4}, 3},
		{[3]int{6, 5, 5}, [3]int{1, 1, 1}, 6},
	}
	for _, c := range cases {
		l := api.Loop{Logs: []int{5}, Body: mixed(c.count)}
		m := machine()
		m.Units = c.units
		expectUnits(t, fmt.Sprint(c.count), l, m, c.want)
	}
}

// Every Op is counted with its own class.
func TestUnitsOfEachOp(t *testing.T) {
	ops := map[int]int{api.LConst: 0, api.LTurn: 0, api.LLoad: 2, api.LStore: 2}
	for op := api.OpAdd; op <= api.OpSame; op++ {
		ops[api.LOp+op] = 0
	}
	ops[api.LOp+api.OpMul] = 1
	for op, class := range ops {
		s := api.Stmt{Op: op}
		if op == api.LStore || op > api.LOp {
			s.A = ref(0, 1)
		}
		if op > api.LOp {
			s.B = ref(0, 1)
		}
		for other := range 3 {
			m := api.Target{Units: [3]int{4, 4, 4}, Wait: [3]int{1, 1, 1}, Regs: 1}
			m.Units[other] = 1
			want := 2
			if other == class {
				want = 7
			}
			expectUnits(t, fmt.Sprint("op ", op), api.Loop{Logs: []int{0}, Body: slices.Repeat([]api.Stmt{s}, 7)}, m, want)
		}
	}
}

// Waits, Refs, registers and Outs are nothing to the units; units and registers nothing to the rounds.
func TestBoundsStandApart(t *testing.T) {
	l := api.Loop{Body: []api.Stmt{turn(), mul(ref(0, 0), ref(1, 1)), mul(ref(1, 0), ref(2, 2)), mul(ref(0, 0), ref(0, 0))}}
	for wait := 1; wait <= api.MaxWait; wait++ {
		for units := 1; units <= api.MaxUnits; units++ {
			m := api.Target{Units: [3]int{1, units, 1}, Wait: [3]int{6, wait, 6}, Regs: 1 + 31*(units-1)}
			expectUnits(t, "apart", l, m, []int{0, 3, 2, 1, 1}[units])
			expectRounds(t, "apart", l, m, wait)
		}
	}
	l.Outs = []int{0, 1, 2, 3}
	expectUnits(t, "with outs", l, machine(), 3)
	expectRounds(t, "with outs", l, machine(), 5)
}

func TestRoundsWithout(t *testing.T) {
	expectRounds(t, "a constant", api.Loop{Body: []api.Stmt{{Op: api.LConst, N: 9}}}, machine(), 1)
	expectRounds(t, "edges that lead on only", api.Loop{Body: []api.Stmt{turn(), mul(ref(0, 0), ref(0, 0)), mul(ref(1, 0), ref(0, 0))}}, machine(), 1)
	expectRounds(t, "back, and no round", api.Loop{Body: []api.Stmt{mul(ref(1, 1), ref(1, 3)), turn(), mul(ref(0, 1), ref(0, 2))}}, machine(), 1)
	expectRounds(t, "loads alone", api.Loop{Logs: []int{0}, Body: []api.Stmt{load(0, 0), load(0, 0)}}, machine(), 1)
}

func TestRoundsOfRefs(t *testing.T) {
	cases := []struct {
		name string
		body []api.Stmt
		want int
	}{
		{"itself, a turn back", []api.Stmt{mul(ref(0, 1), ref(0, 1))}, 5},
		{"itself, two turns back: 5 by 2", []api.Stmt{mul(ref(0, 2), ref(0, 2))}, 3},
		{"itself, three turns back: 5 by 3", []api.Stmt{mul(ref(0, 3), ref(0, 3))}, 2},
		{"itself, the nearer turn counts", []api.Stmt{mul(ref(0, 3), ref(0, 1))}, 5},
		{"the nearer turn counts, the other way round", []api.Stmt{mul(ref(0, 1), ref(0, 3))}, 5},
		{"2 by 2", []api.Stmt{add(ref(0, 2), ref(0, 2))}, 1},
		{"2 by 3, from 1 on", []api.Stmt{add(ref(0, 3), ref(0, 3))}, 1},
		{"each other, a turn back in all", []api.Stmt{mul(ref(1, 1), ref(1, 1)), add(ref(0, 0), ref(0, 0))}, 7},
		{"each other, two turns back in all: 7 by 2", []api.Stmt{mul(ref(1, 1), ref(1, 1)), add(ref(0, 1), ref(0, 1))}, 4},
		{"each other, six turns back in all: 10 by 6", []api.Stmt{mul(ref(1, 3), ref(1, 3)), mul(ref(0, 3), ref(0, 3))}, 2},
		{"each other, five turns back in all: 10 by 5", []api.Stmt{mul(ref(1, 3), ref(1, 3)), mul(ref(0, 2), ref(0, 2))}, 2},
		{"each other, four turns back in all: 10 by 4", []api.Stmt{mul(ref(1, 3), ref(1, 3)), mul(ref(0, 1), ref(0, 1))}, 3},
		{"the longer round counts", []api.Stmt{add(ref(2, 1), ref(0, 1)), mul(ref(0, 0), ref(0, 0)), mul(ref(1, 0), ref(0, 0))}, 12},
		{"the shorter round counts", []api.Stmt{add(ref(2, 3), ref(2, 3)), mul(ref(0, 0), ref(1, 1)), add(ref(1, 0), ref(0, 0))}, 5},
		{"two rounds that share one, 7 by 1 and 10 by 3", []api.Stmt{mul(ref(1, 1), ref(2, 3)), add(ref(0, 0), ref(0, 0)), mul(ref(0, 0), ref(0, 0))}, 7},
		{"two rounds that share one, 7 by 3 and 10 by 1", []api.Stmt{mul(ref(1, 3), ref(2, 1)), add(ref(0, 0), ref(0, 0)), mul(ref(0, 0), ref(0, 0))}, 10},
		{"rounds apart from each other, the last one counts", []api.Stmt{add(ref(0, 1), ref(0, 1)), add(ref(1, 1), ref(1, 1)), mul(ref(2, 1), ref(2, 1))}, 5},
		{"rounds apart from each other, the first one counts", []api.Stmt{mul(ref(0, 1), ref(0, 1)), add(ref(1, 1), ref(1, 1)), add(ref(2, 1), ref(2, 1))}, 5},
		{"backwards through the body, two turns back: 15 by 2", []api.Stmt{mul(ref(1, 1), ref(1, 1)), mul(ref(2, 1), ref(2, 1)), mul(ref(0, 0), ref(0, 0))}, 8},
		{"what stands ahead of a round and behind it doesn't count", []api.Stmt{mul(ref(0, 3), ref(0, 3)), mul(ref(0, 0), ref(0, 0)), add(ref(1, 0), ref(2, 1)), mul(ref(2, 0), ref(2, 0))}, 2},
	}
	for _, c := range cases {
		expectRounds(t, c.name, api.Loop{Body: c.body}, machine(), c.want)
	}
}

func TestRoundsOfWords(t *testing.T) {
	cases := []struct {
		name string
		log  int
		body []api.Stmt
		want int
	}{
		{"one word, loaded, put on and stored: 3, 2 and 1", 0, []api.Stmt{load(0, 0), add(ref(0, 0), ref(0, 0)), store(0, 0, ref(1, 0))}, 6},
		{"the word stored a turn back", 5, []api.Stmt{load(1, 0), add(ref(0, 0), ref(0, 0)), store(1, 1, ref(1, 0))}, 6},
		{"the word stored two turns back", 5, []api.Stmt{load(1, 0), add(ref(0, 0), ref(0, 0)), store(1, 2, ref(1, 0))}, 3},
		{"the word stored four turns back: 6 by 4", 5, []api.Stmt{load(1, 0), add(ref(0, 0), ref(0, 0)), store(1, 4, ref(1, 0))}, 2},
		{"the word stored 31 turns back", 5, []api.Stmt{load(1, 1), add(ref(0, 0), ref(0, 0)), store(1, 0, ref(1, 0))}, 1},
		{"words that never meet", 5, []api.Stmt{load(2, 0), add(ref(0, 0), ref(0, 0)), store(2, 1, ref(1, 0))}, 1},
		{"a word stored again and again", 0, []api.Stmt{turn(), store(0, 0, ref(0, 0))}, 1},
		{"two stores of one word, one behind the other", 0, []api.Stmt{turn(), store(0, 0, ref(0, 0)), store(0, 0, ref(0, 0))}, 2},
		{"a load between waits for nothing", 0, []api.Stmt{turn(), store(0, 0, ref(0, 0)), load(0, 0), store(0, 0, ref(0, 0))}, 2},
		{"a store that looks at itself", 0, []api.Stmt{store(0, 0, ref(0, 1))}, 3},
	}
	for _, c := range cases {
		expectRounds(t, c.name, api.Loop{Logs: []int{c.log}, Body: c.body}, machine(), c.want)
	}
}

// chain has each statement look at the one ahead of it, and the first one at the last one, so many turns back.
func chain(n, back int, make func(a, b api.Ref) api.Stmt) []api.Stmt {
	all := []api.Stmt{make(ref(n-1, back), ref(n-1, back))}
	for at := 1; at < n; at++ {
		all = append(all, make(ref(at-1, 0), ref(at-1, 0)))
	}
	return all
}

// backwards has each statement look at the one behind it, a turn back, and the last one at the first one, so that edges are gone through in the other order.
func backwards(n int, make func(a, b api.Ref) api.Stmt) []api.Stmt {
	all := []api.Stmt{}
	for at := range n - 1 {
		all = append(all, make(ref(at+1, 1), ref(at+1, 1)))
	}
	return append(all, make(ref(0, 0), ref(0, 0)))
}

// Every round through as many statements as there are, with every wait: 96 cycles, a turn back, at the most.
func TestRoundsOfEachLength(t *testing.T) {
	for n := 1; n <= api.MaxBody; n++ {
		for wait := 1; wait <= api.MaxWait; wait++ {
			m := api.Target{Units: [3]int{1, 1, 1}, Wait: [3]int{1, wait, 1}, Regs: 1}
			for back := 1; back <= api.MaxBack; back++ {
				want := int(math.Ceil(float64(n*wait) / float64(back)))
				expectRounds(t, "a chain", api.Loop{Body: chain(n, back, mul)}, m, want)
			}
			if n > 1 {
				want := int(math.Ceil(float64(n*wait) / float64(n-1)))
				expectRounds(t, "a chain backwards", api.Loop{Body: backwards(n, mul)}, m, want)
			}
		}
	}
}

func TestBoundAtItsMost(t *testing.T) {
	m := api.Target{Units: [3]int{1, 1, 1}, Wait: [3]int{6, 6, 6}, Regs: api.MaxRegs}
	l := api.Loop{Body: chain(api.MaxBody, 1, add), Outs: []int{15}}
	if units, rounds := boundOf(t, "the most", l, m); units != 16 || rounds != 96 {
		t.Errorf("units %d, rounds %d, want 16 and 96", units, rounds)
	}
	// Every two of 16 stores of one word wait for each other: 15 times 1, in a turn, and 1 to the next one.
	stores := api.Loop{Logs: []int{0}, Body: slices.Repeat([]api.Stmt{store(0, 0, ref(0, 3))}, api.MaxBody)}
	m.Wait = [3]int{1, 1, 1}
	if units, rounds := boundOf(t, "stores", stores, m); units != 16 || rounds != 16 {
		t.Errorf("stores: units %d, rounds %d, want 16 and 16", units, rounds)
	}
}

func sample() api.Loop {
	return api.Loop{
		Logs: []int{0, 3},
		Body: []api.Stmt{
			{Op: api.LConst, N: -7},
			{Op: api.LTurn},
			{Op: api.LLoad, Array: 1, Step: 2, Plus: -1},
			{Op: api.LOp + api.OpMul, A: ref(2, 0), B: ref(4, 1)},
			{Op: api.LStore, A: ref(3, 0), Array: 1, Step: -1, Plus: 5},
			{Op: api.LOp + api.OpLess, A: ref(5, 3), B: ref(0, 0)},
		},
		Outs: []int{0, 5},
	}
}

func TestBoundRefusesLoops(t *testing.T) {
	spoil := map[string]func(*api.Loop){
		"no loop at all":     func(l *api.Loop) { *l = api.Loop{} },
		"no body":            func(l *api.Loop) { l.Body, l.Outs = nil, nil },
		"too many":           func(l *api.Loop) { l.Body = slices.Repeat([]api.Stmt{turn()}, 17) },
		"no such op":         func(l *api.Loop) { l.Body[1].Op = 0 },
		"no such operation":  func(l *api.Loop) { l.Body[3].Op = api.LOp + api.OpSame + 1 },
		"a field not named":  func(l *api.Loop) { l.Body[1].N = 1 },
		"a ref not named":    func(l *api.Loop) { l.Body[4].B = ref(1, 0) },
		"a ref to itself":    func(l *api.Loop) { l.Body[3].A = ref(3, 0) },
		"a ref on":           func(l *api.Loop) { l.Body[3].A = ref(4, 0) },
		"a ref too far back": func(l *api.Loop) { l.Body[3].A = ref(0, 4) },
		"a ref ahead":        func(l *api.Loop) { l.Body[3].A = ref(0, -1) },
		"a ref to none":      func(l *api.Loop) { l.Body[3].B = ref(6, 1) },
		"no such array":      func(l *api.Loop) { l.Body[2].Array = 2 },
		"a step beyond":      func(l *api.Loop) { l.Body[2].Step = 65 },
		"a plus beyond":      func(l *api.Loop) { l.Body[4].Plus = -65 },
		"a log beyond":       func(l *api.Loop) { l.Logs[0] = 6 },
		"no arrays":          func(l *api.Loop) { l.Logs = nil },
		"too many arrays":    func(l *api.Loop) { l.Logs = []int{0, 3, 0, 0} },
		"outs not rising":    func(l *api.Loop) { l.Outs = []int{1, 1} },
		"outs beyond":        func(l *api.Loop) { l.Outs = []int{6} },
	}
	for _, n := range wild {
		spoil[fmt.Sprint("a wild log ", n)] = func(l *api.Loop) { l.Logs[1] = n }
		spoil[fmt.Sprint("a wild ref ", n)] = func(l *api.Loop) { l.Body[3].A.At = n }
		spoil[fmt.Sprint("a wild back ", n)] = func(l *api.Loop) { l.Body[3].A.Back = n }
		spoil[fmt.Sprint("a wild array ", n)] = func(l *api.Loop) { l.Body[4].Array = n }
		spoil[fmt.Sprint("a wild op ", n)] = func(l *api.Loop) { l.Body[3].Op = n }
		spoil[fmt.Sprint("a wild out ", n)] = func(l *api.Loop) { l.Outs[1] = n }
	}
	for name, change := range spoil {
		l := sample()
		change(&l)
		expectRefused(t, name, l, machine())
		expectRefused(t, name+", and no machine", l, api.Target{})
	}
}

func TestBoundRefusesMachines(t *testing.T) {
	for class := range 3 {
		for _, n := range append([]int{-1, 0, 7}, wild...) {
			m := machine()
			m.Units[class] = n
			expectRefused(t, "units", sample(), m)
			m = machine()
			m.Wait[class] = n
			expectRefused(t, "waits", sample(), m)
		}
		m := machine()
		m.Units[class] = api.MaxUnits + 1
		expectRefused(t, "units", sample(), m)
	}
	for _, n := range append([]int{-1, 0, 129}, wild...) {
		m := machine()
		m.Regs = n
		expectRefused(t, "registers", sample(), m)
	}
	expectRefused(t, "no machine at all", sample(), api.Target{})
	expectRefused(t, "no machine, no edge", api.Loop{Body: []api.Stmt{turn()}}, api.Target{})
}

// behind lays list at the beginning of a longer one, so that more stands behind its length.
func behind[T any](list []T, more ...T) []T {
	return slices.Concat(list, more)[: len(list) : len(list)+len(more)]
}

func TestBoundReadsAndWritesNothingBehindALength(t *testing.T) {
	units, rounds := boundOf(t, "the sample", sample(), machine())
	l := sample()
	more := mul(ref(0, 0), ref(6, 1))
	l.Logs, l.Body, l.Outs = behind(l.Logs, 9), behind(l.Body, more, more), behind(l.Outs, 2)
	if u, r := boundOf(t, "more behind the lengths", l, machine()); u != units || r != rounds {
		t.Errorf("%d, %d, want %d, %d", u, r, units, rounds)
	}
	if l.Logs[:3][2] != 9 || l.Body[:8][6] != more || l.Body[:8][7] != more || l.Outs[:3][2] != 2 {
		t.Errorf("written behind the lengths: %+v", l)
	}
}

func TestBoundLeavesItsArguments(t *testing.T) {
	l := sample()
	units, rounds := boundOf(t, "the sample", l, machine())
	if !reflect.DeepEqual(l, sample()) {
		t.Errorf("changed: %+v", l)
	}
	if u, r := boundOf(t, "once more", l, machine()); u != units || r != rounds {
		t.Errorf("%d, %d, and once more %d, %d", units, rounds, u, r)
	}
}
