package sched

import (
	"fmt"
	"math"
	"reflect"
	"slices"
	"testing"

	"roundelay/api"
)

// wild are ints that no limit takes in.
var wild = []int{math.MinInt, math.MinInt + 1, math.MinInt32, -256, 1<<16 + 1, math.MaxInt32, 1<<32 + 1, math.MaxInt - 1, math.MaxInt}

// machine has waits that differ from class to class, and units enough for short loops.
func machine() api.Target {
	return api.Target{Units: [3]int{4, 4, 4}, Wait: [3]int{2, 5, 3}, Regs: 32}
}

func ref(at, back int) api.Ref { return api.Ref{At: at, Back: back} }

func turn() api.Stmt { return api.Stmt{Op: api.LTurn} }

func add(a, b api.Ref) api.Stmt { return api.Stmt{Op: api.LOp + api.OpAdd, A: a, B: b} }

func mul(a, b api.Ref) api.Stmt { return api.Stmt{Op: api.LOp + api.OpMul, A: a, B: b} }

func load(step, plus int) api.Stmt { return api.Stmt{Op: api.LLoad, Step: step, Plus: plus} }

func store(step, plus int, a api.Ref) api.Stmt {
	return api.Stmt{Op: api.LStore, Step: step, Plus: plus, A: a}
}

func plan(pace int, times ...int) api.Plan { return api.Plan{Pace: pace, Times: times} }

func expectLegal(t *testing.T, name string, l api.Loop, m api.Target, p api.Plan, want bool) {
	t.Helper()
	if got := Legal(l, m, p); got != want {
		t.Errorf("%s: legal %v, want %v: %+v of %+v, %+v", name, got, want, p, l, m)
	}
}

func TestLimits(t *testing.T) {
	if api.MaxBody != 16 || api.MaxBack != 3 || api.MaxUnits != 4 || api.MaxWait != 6 || api.MaxPace != 200 || api.MaxTime != 1000 {
		t.Error("the limits are others than those that these tests were written for")
	}
}

func TestLegalPace(t *testing.T) {
	l := api.Loop{Body: []api.Stmt{turn(), turn()}}
	for pace := -3; pace <= 205; pace++ {
		expectLegal(t, "pace", l, machine(), plan(pace, 0, 3), 1 <= pace && pace <= 200)
	}
	for _, pace := range wild {
		expectLegal(t, "a wild pace", l, machine(), plan(pace, 0, 3), false)
	}
}

func TestLegalTimes(t *testing.T) {
	l := api.Loop{Body: []api.Stmt{turn(), turn(), turn()}}
	for _, time := range append([]int{-2, -1, 0, 1, 199, 200, 999, 1000, 1001, 1002}, wild...) {
		for at := range l.Body {
			for _, pace := range []int{1, 7, 200} {
				p := plan(pace, 5, 5, 5)
				p.Times[at] = time
				expectLegal(t, "a time", l, machine(), p, 0 <= time && time <= 1000)
			}
		}
	}
}

func TestLegalHasATimeForEachStatement(t *testing.T) {
	for n := 1; n <= api.MaxBody; n++ {
		l := api.Loop{Body: slices.Repeat([]api.Stmt{turn()}, n)}
		for times := range api.MaxBody + 3 {
			p := api.Plan{Pace: 200}
			for at := range times {
				p.Times = append(p.Times, at)
			}
			expectLegal(t, "so many times", l, machine(), p, times == n)
		}
	}
	l := api.Loop{Body: []api.Stmt{turn()}}
	expectLegal(t, "no times", l, machine(), api.Plan{Pace: 1}, false)
	expectLegal(t, "no plan at all", l, machine(), api.Plan{}, false)
	expectLegal(t, "very many times", l, machine(), api.Plan{Pace: 1, Times: make([]int, 1<<20)}, false)
}

// tight has a loop, and two times of which the second one can't be any earlier, at that pace.
type tight struct {
	name  string
	logs  []int
	body  []api.Stmt
	pace  int
	times []int
	at    int
}

func tights() []tight {
	long := []int{5}
	return []tight{
		{"a result of the same turn, plain", nil, []api.Stmt{turn(), add(ref(0, 0), ref(0, 0))}, 4, []int{3, 5}, 1},
		{"a result of the same turn, looked at by B alone", nil, []api.Stmt{turn(), add(ref(1, 3), ref(0, 0))}, 4, []int{3, 5}, 1},
		{"a result of the same turn, of a mul", nil, []api.Stmt{mul(ref(0, 3), ref(0, 3)), add(ref(0, 0), ref(0, 0))}, 4, []int{3, 8}, 1},
		{"a result of the same turn, of a load", long, []api.Stmt{load(1, 0), add(ref(0, 0), ref(0, 0))}, 4, []int{3, 6}, 1},
		{"a result of a store", long, []api.Stmt{store(1, 0, ref(0, 3)), add(ref(0, 0), ref(0, 0))}, 4, []int{3, 6}, 1},
		{"a store looks at what it stores", long, []api.Stmt{mul(ref(0, 3), ref(0, 3)), store(1, 0, ref(0, 0))}, 4, []int{3, 8}, 1},
		{"a result of one turn back", nil, []api.Stmt{add(ref(1, 1), ref(1, 1)), mul(ref(1, 3), ref(1, 3))}, 4, []int{8, 7}, 0},
		{"a result of two turns back", nil, []api.Stmt{add(ref(1, 2), ref(1, 2)), mul(ref(1, 3), ref(1, 3))}, 4, []int{9, 12}, 0},
		{"a result of three turns back", nil, []api.Stmt{add(ref(1, 3), ref(1, 3)), mul(ref(1, 3), ref(1, 3))}, 4, []int{9, 16}, 0},
		{"the nearer one of two results counts", nil, []api.Stmt{add(ref(1, 3), ref(1, 1)), mul(ref(1, 3), ref(1, 3))}, 4, []int{8, 7}, 0},
		{"a word stored in the same turn", long, []api.Stmt{store(1, 0, ref(0, 3)), load(1, 0)}, 3, []int{3, 4}, 1},
		{"a word loaded in the same turn", long, []api.Stmt{load(1, 0), store(1, 0, ref(0, 3))}, 3, []int{3, 3}, 1},
		{"a word stored twice", long, []api.Stmt{store(1, 0, ref(0, 3)), store(1, 0, ref(0, 3))}, 3, []int{3, 4}, 1},
		{"a word stored two turns back", long, []api.Stmt{load(1, 0), store(1, 2, ref(1, 3))}, 3, []int{6, 11}, 0},
		{"a word loaded two turns back", long, []api.Stmt{store(1, 0, ref(0, 3)), load(1, 2)}, 3, []int{6, 12}, 0},
	}
}

// Of each kind of edge, the time that it allows just so, the one ahead of it, and the one behind it.
func TestLegalKeepsEachEdge(t *testing.T) {
	for _, c := range tights() {
		l := api.Loop{Logs: c.logs, Body: c.body}
		for change := -2; change <= 2; change++ {
			p := plan(c.pace, slices.Clone(c.times)...)
			p.Times[c.at] += change
			expectLegal(t, fmt.Sprint(c.name, ", put off by ", change), l, machine(), p, change >= 0)
		}
	}
}

// Edges ask for a pace, where a round of them must be kept: 5 by 1, 5 by 2, 5 by 3.
func TestLegalKeepsRounds(t *testing.T) {
	for back, least := range []int{1: 5, 2: 3, 3: 2} {
		if back == 0 {
			continue
		}
		l := api.Loop{Body: []api.Stmt{mul(ref(0, back), ref(0, back))}}
		for pace := 1; pace <= 8; pace++ {
			expectLegal(t, "itself", l, machine(), plan(pace, 9), pace >= least)
		}
	}
	l := api.Loop{Logs: []int{0}, Body: []api.Stmt{load(0, 0), add(ref(0, 0), ref(0, 0)), store(0, 0, ref(1, 0))}}
	expectLegal(t, "a word's round", l, machine(), plan(6, 0, 3, 5), true)
	expectLegal(t, "a word's round, too fast", l, machine(), plan(5, 0, 3, 5), false)
	expectLegal(t, "a word's round, the store too late", l, machine(), plan(6, 0, 3, 6), false)
}

// ofClass has n statements of a class, between which no edge asks for anything at a pace from 6 on.
func ofClass(class, n int) []api.Stmt {
	kinds := [3]api.Stmt{turn(), mul(ref(0, 3), ref(0, 3)), load(1, 0)}
	return slices.Repeat(kinds[class:class+1], n)
}

// So many statements of a class at one rest, in one pace or in several.
func TestLegalUnitsOfEachClass(t *testing.T) {
	for class := range 3 {
		for units := 1; units <= api.MaxUnits; units++ {
			for n := 1; n <= api.MaxUnits+2; n++ {
				m := machine()
				m.Units[class] = units
				l := api.Loop{Logs: []int{5}, Body: ofClass(class, n)}
				same, apart := api.Plan{Pace: 8}, api.Plan{Pace: 8}
				for at := range n {
					same.Times = append(same.Times, 5)
					apart.Times = append(apart.Times, 5+8*(n-at-1)%24)
				}
				name := fmt.Sprintf("%d of class %d on %d units", n, class, units)
				expectLegal(t, name+", at once", l, m, same, n <= units)
				expectLegal(t, name+", paces apart", l, m, apart, n <= units)
				for at := range n {
					same.Times[at] = 5 + at
				}
				expectLegal(t, name+", a cycle apart", l, m, same, true)
			}
		}
	}
}

// A class doesn't use the units of another one, and each rest is counted alone.
func TestLegalUnitsStandApart(t *testing.T) {
	m := machine()
	m.Units = [3]int{1, 1, 1}
	l := api.Loop{Logs: []int{5}, Body: []api.Stmt{turn(), mul(ref(1, 3), ref(1, 3)), load(1, 0)}}
	expectLegal(t, "one of each class at once", l, m, plan(4, 7, 7, 7), true)
	l.Body = append(l.Body, l.Body...)
	expectLegal(t, "two of each class, a cycle apart", l, m, plan(4, 7, 7, 7, 8, 8, 8), true)
	for at := range l.Body[:3] {
		p := plan(4, 7, 7, 7, 8, 8, 8)
		p.Times[at] = 12
		expectLegal(t, "one of them a pace apart from its like", l, m, p, false)
		p.Times[at] = 10
		expectLegal(t, "one of them at a rest of its own", l, m, p, true)
	}
	expectLegal(t, "a pace of 1 has one rest", l, api.Target{Units: [3]int{4, 2, 2}, Wait: [3]int{1, 1, 1}, Regs: 1}, plan(1, 0, 10, 20, 30, 40, 50), true)
	expectLegal(t, "a pace of 1 has one rest, and too few units", l, api.Target{Units: [3]int{4, 2, 1}, Wait: [3]int{1, 1, 1}, Regs: 1}, plan(1, 0, 10, 20, 30, 40, 50), false)
}

// Registers and Outs are nothing to a plan.
func TestLegalWithoutRegisters(t *testing.T) {
	l := api.Loop{Body: []api.Stmt{turn(), add(ref(0, 0), ref(1, 1))}, Outs: []int{0, 1}}
	for _, regs := range []int{1, 2, 128} {
		m := machine()
		m.Regs = regs
		expectLegal(t, "registers", l, m, plan(2, 0, 1000), true)
	}
}

func sample() api.Loop {
	return api.Loop{
		Logs: []int{0, 3},
		Body: []api.Stmt{
			{Op: api.LConst, N: -7},
			{Op: api.LTurn},
			{Op: api.LLoad, Array: 1, Step: 2, Plus: -1},
			{Op: api.LOp + api.OpMul, A: ref(2, 0), B: ref(4, 1)},
			{Op: api.LStore, A: ref(3, 0), Array: 1, Step: -1, Plus: 5},
			{Op: api.LOp + api.OpLess, A: ref(5, 3), B: ref(0, 0)},
		},
		Outs: []int{0, 5},
	}
}

// samplePlan does the sample's statements one by one.
func samplePlan() api.Plan { return plan(20, 0, 2, 4, 7, 12, 15) }

// spoiled are loops that may not be, some with more statements, some with less than the sample.
func spoiled() map[string]api.Loop {
	spoil := map[string]func(*api.Loop){
		"no loop at all":     func(l *api.Loop) { *l = api.Loop{} },
		"no body":            func(l *api.Loop) { l.Body, l.Outs = nil, nil },
		"too many":           func(l *api.Loop) { l.Body = slices.Repeat([]api.Stmt{turn()}, 17) },
		"no such op":         func(l *api.Loop) { l.Body[1].Op = 0 },
		"no such operation":  func(l *api.Loop) { l.Body[3].Op = api.LOp + api.OpSame + 1 },
		"a field not named":  func(l *api.Loop) { l.Body[1].N = 1 },
		"a ref not named":    func(l *api.Loop) { l.Body[4].B = ref(1, 0) },
		"a ref to itself":    func(l *api.Loop) { l.Body[3].A = ref(3, 0) },
		"a ref on":           func(l *api.Loop) { l.Body[3].A = ref(4, 0) },
		"a ref too far back": func(l *api.Loop) { l.Body[3].A = ref(0, 4) },
		"a ref ahead":        func(l *api.Loop) { l.Body[3].A = ref(0, -1) },
		"a ref to none":      func(l *api.Loop) { l.Body[3].B = ref(6, 1) },
		"no such array":      func(l *api.Loop) { l.Body[2].Array = 2 },
		"a step beyond":      func(l *api.Loop) { l.Body[2].Step = 65 },
		"a plus beyond":      func(l *api.Loop) { l.Body[4].Plus = -65 },
		"a log beyond":       func(l *api.Loop) { l.Logs[0] = 6 },
		"no arrays":          func(l *api.Loop) { l.Logs = nil },
		"too many arrays":    func(l *api.Loop) { l.Logs = []int{0, 3, 0, 0} },
		"outs not rising":    func(l *api.Loop) { l.Outs = []int{1, 1} },
		"outs beyond":        func(l *api.Loop) { l.Outs = []int{6} },
	}
	for _, n := range wild {
		spoil[fmt.Sprint("a wild log ", n)] = func(l *api.Loop) { l.Logs[1] = n }
		spoil[fmt.Sprint("a wild ref ", n)] = func(l *api.Loop) { l.Body[3].A.At = n }
		spoil[fmt.Sprint("a wild back ", n)] = func(l *api.Loop) { l.Body[3].A.Back = n }
		spoil[fmt.Sprint("a wild array ", n)] = func(l *api.Loop) { l.Body[4].Array = n }
		spoil[fmt.Sprint("a wild op ", n)] = func(l *api.Loop) { l.Body[3].Op = n }
		spoil[fmt.Sprint("a wild out ", n)] = func(l *api.Loop) { l.Outs[1] = n }
	}
	loops := map[string]api.Loop{}
	for name, change := range spoil {
		l := sample()
		change(&l)
		loops[name] = l
	}
	return loops
}

// spoiledMachines are machines that may not be.
func spoiledMachines() []api.Target {
	all := []api.Target{{}}
	for class := range 3 {
		for _, n := range append([]int{-1, 0, 7}, wild...) {
			m := machine()
			m.Units[class] = n
			all = append(all, m)
			m = machine()
			m.Wait[class] = n
			all = append(all, m)
		}
		m := machine()
		m.Units[class] = api.MaxUnits + 1
		all = append(all, m)
	}
	for _, n := range append([]int{-1, 0, 129}, wild...) {
		m := machine()
		m.Regs = n
		all = append(all, m)
	}
	return all
}

func TestLegalRefusesLoopsAndMachines(t *testing.T) {
	expectLegal(t, "the sample", sample(), machine(), samplePlan(), true)
	for name, l := range spoiled() {
		p := api.Plan{Pace: 20}
		for at := range l.Body {
			p.Times = append(p.Times, 5*at)
		}
		expectLegal(t, name, l, machine(), p, false)
		expectLegal(t, name+", and no plan", l, machine(), api.Plan{}, false)
		expectLegal(t, name+", and the sample's plan", l, machine(), samplePlan(), false)
	}
	for _, m := range spoiledMachines() {
		expectLegal(t, "no machine", sample(), m, samplePlan(), false)
		expectLegal(t, "no machine, no edge", api.Loop{Body: []api.Stmt{turn()}}, m, plan(1, 0), false)
	}
}

// behind lays list at the beginning of a longer one, so that more stands behind its length.
func behind[T any](list []T, more ...T) []T {
	return slices.Concat(list, more)[: len(list) : len(list)+len(more)]
}

// sampleBehind is the sample with more behind the length of each of its lists; whole tells whether that is still so.
func sampleBehind() (l api.Loop, whole func() bool) {
	l = sample()
	more := mul(ref(0, 0), ref(6, 1))
	l.Logs, l.Body, l.Outs = behind(l.Logs, 9), behind(l.Body, more, more), behind(l.Outs, 2)
	return l, func() bool {
		return l.Logs[:3][2] == 9 && l.Body[:8][6] == more && l.Body[:8][7] == more && l.Outs[:3][2] == 2
	}
}

func TestLegalReadsAndWritesNothingBehindALength(t *testing.T) {
	l, whole := sampleBehind()
	p := samplePlan()
	p.Times = behind(p.Times, -1, 4000)
	expectLegal(t, "more behind the lengths", l, machine(), p, true)
	p.Times = behind(p.Times[:5], 15, 4000)
	expectLegal(t, "a time too few, that stands behind the length", l, machine(), p, false)
	if !whole() || p.Times[:7][5] != 15 || p.Times[:7][6] != 4000 {
		t.Errorf("written behind the lengths: %+v, %+v", l, p)
	}
}

func TestLegalLeavesItsArguments(t *testing.T) {
	l, p := sample(), samplePlan()
	for range 3 {
		expectLegal(t, "once more", l, machine(), p, true)
	}
	if !reflect.DeepEqual(l, sample()) || !reflect.DeepEqual(p, samplePlan()) {
		t.Errorf("changed: %+v, %+v", l, p)
	}
}
