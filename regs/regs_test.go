package regs

import (
	"fmt"
	"math"
	"reflect"
	"slices"
	"testing"

	"roundelay/api"
	"roundelay/check"
	"roundelay/emit"
	"roundelay/sched"
)

// wild are ints that no limit takes in.
var wild = []int{math.MinInt, math.MinInt + 1, math.MinInt32, -256, 1<<16 + 1, math.MaxInt32, 1<<32 + 1, math.MaxInt - 1, math.MaxInt}

func machine() api.Target {
	return api.Target{Units: [3]int{4, 4, 4}, Wait: [3]int{2, 5, 3}, Regs: 30}
}

// wide has units enough for all that is asked for in one cycle, and waits of 1.
func wide(regs int) api.Target {
	return api.Target{Units: [3]int{4, 4, 4}, Wait: [3]int{1, 1, 1}, Regs: regs}
}

func ref(at, back int) api.Ref { return api.Ref{At: at, Back: back} }

func turn() api.Stmt { return api.Stmt{Op: api.LTurn} }

func add(a, b api.Ref) api.Stmt { return api.Stmt{Op: api.LOp + api.OpAdd, A: a, B: b} }

func mul(a, b api.Ref) api.Stmt { return api.Stmt{Op: api.LOp + api.OpMul, A: a, B: b} }

func plan(pace int, times ...int) api.Plan { return api.Plan{Pace: pace, Times: times} }

// sample has a statement of each kind, and looks at its own turn, at itself, and at what stands behind.
func sample() api.Loop {
	return api.Loop{
		Logs: []int{0, 3},
		Body: []api.Stmt{
			{Op: api.LConst, N: -7},
			{Op: api.LTurn},
			{Op: api.LLoad, Array: 1, Step: 2, Plus: -1},
			{Op: api.LOp + api.OpMul, A: ref(2, 0), B: ref(4, 1)},
			{Op: api.LStore, A: ref(3, 0), Array: 1, Step: -1, Plus: 5},
			{Op: api.LOp + api.OpLess, A: ref(5, 3), B: ref(0, 0)},
		},
		Outs: []int{0, 5},
	}
}

// samplePlan has two stages.
func samplePlan() api.Plan { return plan(9, 0, 2, 4, 7, 12, 15) }

// taken tells whether the kernel that is emitted with those dests is.
func taken(l api.Loop, m api.Target, p api.Plan, dests []int) bool {
	k, code := emit.Emit(l, m, p, dests)
	order := []int{}
	for at := range l.Body {
		order = append(order, at)
	}
	return code == api.OK && check.Takes(l, m, k, order)
}

// expectAnswer holds an answer to a legal plan against what K1 says of all of them, and tells whether there are registers.
func expectAnswer(t *testing.T, name string, l api.Loop, m api.Target, p api.Plan) bool {
	t.Helper()
	if !sched.Legal(l, m, p) {
		t.Fatalf("%s: no legal plan: %+v, %+v, %+v", name, l, m, p)
	}
	dests, code := Make(l, m, p)
	switch {
	case code == api.ErrSize && len(dests) == 0:
		return false
	case code != api.OK:
		t.Errorf("%s: %v, code %d: %+v, %+v, %+v", name, dests, code, l, m, p)
	case !taken(l, m, p, dests):
		t.Errorf("%s: not taken with %v: %+v, %+v, %+v", name, dests, l, m, p)
	}
	return true
}

func expectFound(t *testing.T, name string, l api.Loop, m api.Target, p api.Plan) {
	t.Helper()
	if !expectAnswer(t, name, l, m, p) {
		t.Errorf("%s: none found: %+v, %+v, %+v", name, l, m, p)
	}
}

func expectNone(t *testing.T, name string, l api.Loop, m api.Target, p api.Plan) {
	t.Helper()
	if expectAnswer(t, name, l, m, p) {
		t.Errorf("%s: found, where there are none: %+v, %+v, %+v", name, l, m, p)
	}
}

// expectFewest tells how many registers are the fewest with which some are found. K1 doesn't ask for so few, but there are such.
func expectFewest(t *testing.T, name string, l api.Loop, m api.Target, p api.Plan, fewest int) {
	t.Helper()
	for m.Regs = range api.MaxRegs + 1 {
		switch {
		case m.Regs == 0:
		case m.Regs < fewest:
			expectNone(t, fmt.Sprint(name, ", ", m.Regs, " registers"), l, m, p)
		case m.Regs == fewest:
			expectFound(t, fmt.Sprint(name, ", ", m.Regs, " registers"), l, m, p)
		default:
			expectAnswer(t, fmt.Sprint(name, ", ", m.Regs, " registers"), l, m, p)
		}
	}
}

func expectRefused(t *testing.T, name string, l api.Loop, m api.Target, p api.Plan) {
	t.Helper()
	if dests, code := Make(l, m, p); code != api.ErrForm || len(dests) != 0 {
		t.Errorf("%s: %v, code %d, want nothing and %d", name, dests, code, api.ErrForm)
	}
}

func TestLimits(t *testing.T) {
	if api.MaxBody != 16 || api.MaxBack != 3 || api.MaxUnits != 4 || api.MaxWait != 6 || api.MaxRegs != 128 || api.MaxPace != 200 || api.MaxTime != 1000 {
		t.Error("the limits are others than those that these tests were written for")
	}
}

func TestMakeSample(t *testing.T) {
	for late := range 40 {
		p := samplePlan()
		for at := range p.Times {
			p.Times[at] += late
		}
		expectFound(t, fmt.Sprint("the sample, later by ", late), sample(), machine(), p)
	}
	expectFound(t, "the sample, in one stage", sample(), machine(), plan(20, samplePlan().Times...))
}

// The turn's number is read just when it comes, and so is the sum: one register has room for both, and there is one that the next turn writes meanwhile.
func TestMakeWithFewRegisters(t *testing.T) {
	l := api.Loop{Body: []api.Stmt{turn(), add(ref(0, 0), ref(1, 1))}, Outs: []int{1}}
	expectFewest(t, "the sum", l, wide(1), plan(1, 0, 1), 2)
	expectFewest(t, "one statement", api.Loop{Body: []api.Stmt{turn()}}, wide(1), plan(1, 0), 1)
	expectFewest(t, "one statement, that is told", api.Loop{Body: []api.Stmt{turn()}, Outs: []int{0}}, wide(1), plan(1, 1000), 1)
	nobody := api.Loop{Body: slices.Repeat([]api.Stmt{turn()}, 4)}
	expectFewest(t, "results that nobody asks for", nobody, wide(1), plan(1, 0, 0, 3, 7), 1)
}

// Each turn on, a result is one register on: what is read so many paces later needs a register more.
func TestMakeOfLongLives(t *testing.T) {
	l := api.Loop{Body: []api.Stmt{turn(), add(ref(0, 0), ref(0, 0))}}
	for turns := 1; turns <= 130; turns++ {
		p := plan(7, 0, 1+7*turns)
		if turns > 127 {
			expectNone(t, "a life longer than all registers", l, wide(128), p)
			continue
		}
		m := wide(turns)
		expectNone(t, "the turn's number comes again just when it is read", l, m, p)
		m.Regs++
		expectFound(t, "the sum comes where the turn's number has just been read", l, m, p)
	}
	expectFewest(t, "a life from the first to the last time", l, wide(1), plan(8, 0, 1000), 126)
	expectNone(t, "a life of too many paces", l, wide(128), plan(1, 0, 1000))
}

// Of as many turns as are looked back, numbers are there from the beginning on, each in a register of its own.
func TestMakeOfWhatIsThereFromTheBeginningOn(t *testing.T) {
	for back := 1; back <= api.MaxBack; back++ {
		one := api.Loop{Body: []api.Stmt{add(ref(0, back), ref(0, back))}}
		m := wide(1)
		for _, pace := range []int{1, 2, 5} {
			expectFewest(t, fmt.Sprint("one, back ", back, ", pace ", pace), one, m, plan(pace, 0), back)
		}
		// The result is read just when it comes: but for what is there from the beginning on, one register would do.
		m.Wait[0] = back
		expectFewest(t, fmt.Sprint("one that waits, back ", back), one, m, plan(1, 0), back)
		for n := 2; n <= 4; n++ {
			l := api.Loop{}
			for at := range n {
				l.Body = append(l.Body, add(ref(at, back), ref(at, back)))
			}
			m.Regs = n*back - 1
			expectNone(t, fmt.Sprint(n, ", back ", back), l, m, plan(1, make([]int, n)...))
			m.Regs = 5 * n
			expectFound(t, fmt.Sprint(n, ", back ", back), l, m, plan(1, make([]int, n)...))
		}
	}
}

// Each of Outs is in a register of its own at the end.
func TestMakeOfOuts(t *testing.T) {
	for n := 1; n <= api.MaxBody; n++ {
		l, p := api.Loop{Body: slices.Repeat([]api.Stmt{turn()}, n)}, plan(4)
		for at := range n {
			l.Outs = append(l.Outs, at)
			p.Times = append(p.Times, at/4)
		}
		expectFewest(t, fmt.Sprint(n, " outs"), l, wide(1), p, n)
	}
	// The second one is told, and the first one comes later, of turns ahead of the last one too: 5 registers of turns not ahead.
	l := api.Loop{Body: []api.Stmt{turn(), turn()}, Outs: []int{1}}
	expectFewest(t, "one that comes later", l, wide(1), plan(2, 9, 0), 6)
	l.Outs = []int{0}
	expectFewest(t, "one that comes sooner", l, wide(1), plan(2, 9, 0), 1)
}

// crowd is a loop in which each result is looked at as far back as can be, by the statement that is done last, and by itself.
func crowd(n, statements int) api.Loop {
	l := api.Loop{}
	for at := range statements {
		s := add(ref(at, n), ref((at+1)%statements, n))
		if at == statements-1 {
			s = mul(ref(at, n), ref(0, n))
		}
		l.Body = append(l.Body, s)
		l.Outs = append(l.Outs, at)
	}
	return l
}

// crowdPlan does four statements in each cycle, the last ones so late that they come just at the pace.
func crowdPlan(statements, wait int) api.Plan {
	p := api.Plan{}
	for at := range statements {
		p.Times = append(p.Times, at/4)
		p.Pace = max(p.Pace, at/4+wait)
	}
	return p
}

// Where there are five registers for each statement, and each result comes in its own pace, registers are always found; where there are fewer, or one comes later, they are good ones, or none.
func TestMakeOfCrowdsAtFiveTimes(t *testing.T) {
	for n := 1; n <= api.MaxBody; n++ {
		for back := 1; back <= api.MaxBack; back++ {
			for wait := 1; wait <= api.MaxWait; wait++ {
				l, p, m := crowd(back, n), crowdPlan(n, wait), wide(5*n)
				m.Wait = [3]int{wait, wait, wait}
				expectFound(t, fmt.Sprint(n, " statements at five times"), l, m, p)
				for m.Regs = range 5 * n {
					if m.Regs > 0 {
						expectAnswer(t, fmt.Sprint(n, " statements at less than five times"), l, m, p)
					}
				}
				m.Regs = 5 * n
				for at := range p.Times {
					p.Times[at]++
				}
				expectAnswer(t, fmt.Sprint(n, " statements, beyond the pace"), l, m, p)
			}
		}
	}
}

// The greatest paces and times, and the most registers.
func TestMakeAtTheLimits(t *testing.T) {
	l := crowd(3, 16)
	p := crowdPlan(16, 1)
	m := wide(80)
	p.Pace = 200
	expectFound(t, "the slowest", l, m, p)
	for at := range p.Times {
		p.Times[at] += 196
	}
	expectFound(t, "the slowest, and as late as can be", l, m, p)
	m.Regs = 128
	expectFound(t, "the most registers", l, m, p)
	for at := range p.Times {
		p.Times[at] += 800
	}
	// All have the same stage again, the fifth.
	expectFound(t, "the latest times", l, m, plan(200, p.Times...))
}

func TestMakeRefusesPlans(t *testing.T) {
	spoil := map[string]func(*api.Plan){
		"no plan at all":             func(p *api.Plan) { *p = api.Plan{} },
		"no times":                   func(p *api.Plan) { p.Times = nil },
		"a time too few":             func(p *api.Plan) { p.Times = p.Times[:5] },
		"a time too many":            func(p *api.Plan) { p.Times = append(p.Times, 16) },
		"very many times":            func(p *api.Plan) { p.Times = make([]int, 1<<20) },
		"no pace":                    func(p *api.Plan) { p.Pace = 0 },
		"a pace below 0":             func(p *api.Plan) { p.Pace = -9 },
		"a pace beyond":              func(p *api.Plan) { p.Pace = 201 },
		"a time below 0":             func(p *api.Plan) { p.Times[1] = -1 },
		"a time beyond":              func(p *api.Plan) { p.Times[1] = 1001 },
		"a word not yet stored":      func(p *api.Plan) { p.Pace = 8 },
		"a result not yet there":     func(p *api.Plan) { p.Times[3] = 6 },
		"a result of one turn back":  func(p *api.Plan) { p.Times[4] = 14 },
		"a result of the same pace":  func(p *api.Plan) { p.Times[0] = 14 },
		"each statement at one time": func(p *api.Plan) { p.Times = make([]int, 6) },
	}
	for _, n := range wild {
		spoil[fmt.Sprint("a wild pace ", n)] = func(p *api.Plan) { p.Pace = n }
		spoil[fmt.Sprint("a wild time ", n)] = func(p *api.Plan) { p.Times[5] = n }
	}
	few := machine()
	few.Regs = 1
	expectNone(t, "one register", sample(), few, samplePlan())
	for name, change := range spoil {
		p := samplePlan()
		change(&p)
		expectRefused(t, name, sample(), machine(), p)
		expectRefused(t, name+", and too few registers", sample(), few, p)
	}
	m := machine()
	m.Units[0] = 1
	expectFound(t, "a plain unit", sample(), m, samplePlan())
	expectRefused(t, "a plain unit, for two at once", sample(), m, plan(9, 0, 9, 4, 7, 12, 15))
}

func TestMakeRefusesLoops(t *testing.T) {
	spoil := map[string]func(*api.Loop){
		"no loop at all":     func(l *api.Loop) { *l = api.Loop{} },
		"no such op":         func(l *api.Loop) { l.Body[1].Op = 0 },
		"no such operation":  func(l *api.Loop) { l.Body[3].Op = api.LOp + api.OpSame + 1 },
		"a field not named":  func(l *api.Loop) { l.Body[1].N = 1 },
		"a ref not named":    func(l *api.Loop) { l.Body[4].B = ref(1, 0) },
		"a ref to itself":    func(l *api.Loop) { l.Body[3].A = ref(3, 0) },
		"a ref on":           func(l *api.Loop) { l.Body[3].A = ref(4, 0) },
		"a ref too far back": func(l *api.Loop) { l.Body[3].A = ref(0, 4) },
		"a ref ahead":        func(l *api.Loop) { l.Body[3].A = ref(0, -1) },
		"a ref to none":      func(l *api.Loop) { l.Body[3].B = ref(6, 1) },
		"no such array":      func(l *api.Loop) { l.Body[2].Array = 2 },
		"a step beyond":      func(l *api.Loop) { l.Body[2].Step = 65 },
		"a log beyond":       func(l *api.Loop) { l.Logs[0] = 6 },
		"too many arrays":    func(l *api.Loop) { l.Logs = []int{0, 3, 0, 0} },
		"outs not rising":    func(l *api.Loop) { l.Outs = []int{1, 1} },
		"outs beyond":        func(l *api.Loop) { l.Outs = []int{6} },
		"outs below 0":       func(l *api.Loop) { l.Outs = []int{-1} },
		"very many outs":     func(l *api.Loop) { l.Outs = make([]int, 1<<20) },
	}
	for _, n := range wild {
		spoil[fmt.Sprint("a wild log ", n)] = func(l *api.Loop) { l.Logs[1] = n }
		spoil[fmt.Sprint("a wild ref ", n)] = func(l *api.Loop) { l.Body[3].A.At = n }
		spoil[fmt.Sprint("a wild back ", n)] = func(l *api.Loop) { l.Body[3].A.Back = n }
		spoil[fmt.Sprint("a wild array ", n)] = func(l *api.Loop) { l.Body[4].Array = n }
		spoil[fmt.Sprint("a wild op ", n)] = func(l *api.Loop) { l.Body[3].Op = n }
		spoil[fmt.Sprint("a wild out ", n)] = func(l *api.Loop) { l.Outs[1] = n }
	}
	for name, change := range spoil {
		l := sample()
		change(&l)
		expectRefused(t, name, l, machine(), samplePlan())
		expectRefused(t, name+", and no machine", l, api.Target{}, samplePlan())
	}
	for _, n := range []int{0, 17, 1 << 12} {
		l := api.Loop{Body: slices.Repeat([]api.Stmt{turn()}, n)}
		p := api.Plan{Pace: 200, Times: make([]int, n)}
		for at := range n {
			p.Times[at] = at % 200
		}
		expectRefused(t, fmt.Sprint(n, " statements"), l, machine(), p)
	}
}

func TestMakeRefusesMachines(t *testing.T) {
	all := []api.Target{{}}
	for class := range 3 {
		for _, n := range append([]int{-1, 0, 7}, wild...) {
			m := machine()
			m.Units[class] = n
			all = append(all, m)
			m = machine()
			m.Wait[class] = n
			all = append(all, m)
		}
	}
	for _, n := range append([]int{-1, 0, 129}, wild...) {
		m := machine()
		m.Regs = n
		all = append(all, m)
	}
	for _, m := range all {
		expectRefused(t, "no machine", sample(), m, samplePlan())
		expectRefused(t, "no machine, no edge", api.Loop{Body: []api.Stmt{turn()}}, m, plan(1, 0))
	}
}

// behind lays list at the beginning of a longer one, so that more stands behind its length.
func behind[T any](list []T, more ...T) []T {
	return slices.Concat(list, more)[: len(list) : len(list)+len(more)]
}

func TestMakeReadsAndWritesNothingBehindALength(t *testing.T) {
	want, _ := Make(sample(), machine(), samplePlan())
	l, p := sample(), samplePlan()
	more := add(ref(0, 0), ref(6, 1))
	l.Logs, l.Body, l.Outs = behind(l.Logs, 9), behind(l.Body, more), behind(l.Outs, 2)
	p.Times = behind(p.Times, 4000)
	if dests, code := Make(l, machine(), p); code != api.OK || !slices.Equal(dests, want) {
		t.Errorf("more behind the lengths: %v, code %d, want %v", dests, code, want)
	}
	early := plan(9, behind(samplePlan().Times[:5], 15, 16)...)
	expectRefused(t, "a time too few, that stands behind the length", l, machine(), early)
	if l.Logs[:3][2] != 9 || l.Body[:7][6] != more || l.Outs[:3][2] != 2 || p.Times[:7][6] != 4000 || early.Times[:7][5] != 15 {
		t.Errorf("written behind the lengths: %+v, %+v, %+v", l, p, early)
	}
}

// An answer is nobody else's: what is written into it changes neither what was handed in nor what is answered next.
func TestMakeAnswersNewMemory(t *testing.T) {
	l, p := sample(), samplePlan()
	first, _ := Make(l, machine(), p)
	want := slices.Clone(first)
	for range 3 {
		dests, code := Make(l, machine(), p)
		if code != api.OK || !slices.Equal(dests, want) {
			t.Errorf("once more: %v, code %d, want %v", dests, code, want)
		}
		for at := range dests[:cap(dests)] {
			dests[:cap(dests)][at] = 99
		}
	}
	if !slices.Equal(first, want) || !reflect.DeepEqual(l, sample()) || !reflect.DeepEqual(p, samplePlan()) {
		t.Errorf("changed: %v, %+v, %+v", first, l, p)
	}
}
