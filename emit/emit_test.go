package emit

import (
	"fmt"
	"math"
	"reflect"
	"slices"
	"testing"

	"roundelay/api"
)

// wild are ints that no limit takes in.
var wild = []int{math.MinInt, math.MinInt + 1, math.MinInt32, -256, 1<<16 + 1, math.MaxInt32, 1<<32 + 1, math.MaxInt - 1, math.MaxInt}

// machine has waits that differ from class to class, and few registers, so that names go round.
func machine() api.Target {
	return api.Target{Units: [3]int{4, 4, 4}, Wait: [3]int{2, 5, 3}, Regs: 7}
}

func ref(at, back int) api.Ref { return api.Ref{At: at, Back: back} }

func turn() api.Stmt { return api.Stmt{Op: api.LTurn} }

func add(a, b api.Ref) api.Stmt { return api.Stmt{Op: api.LOp + api.OpAdd, A: a, B: b} }

func plan(pace int, times ...int) api.Plan { return api.Plan{Pace: pace, Times: times} }

// sample has a statement of each kind, and looks at its own turn, at itself, and at what stands behind.
func sample() api.Loop {
	return api.Loop{
		Logs: []int{0, 3},
		Body: []api.Stmt{
			{Op: api.LConst, N: -7},
			{Op: api.LTurn},
			{Op: api.LLoad, Array: 1, Step: 2, Plus: -1},
			{Op: api.LOp + api.OpMul, A: ref(2, 0), B: ref(4, 1)},
			{Op: api.LStore, A: ref(3, 0), Array: 1, Step: -1, Plus: 5},
			{Op: api.LOp + api.OpLess, A: ref(5, 3), B: ref(0, 0)},
		},
		Outs: []int{0, 5},
	}
}

func samplePlan() api.Plan { return plan(9, 0, 2, 4, 7, 12, 15) }

func sampleDests() []int { return []int{6, 0, 3, 3, 5, 1} }

// sampleKernel is worked out by hand, with 7 registers.
func sampleKernel() api.Kernel {
	return api.Kernel{Pace: 9, Stages: 2, Ops: []api.Op{
		{Slot: 0, Stage: 0, Op: api.LConst, Dest: 6, N: -7},
		{Slot: 2, Stage: 0, Op: api.LTurn, Dest: 0},
		{Slot: 4, Stage: 0, Op: api.LLoad, Dest: 3, Array: 1, Step: 2, Plus: -1},
		// 3 and 0, less 0 and 0; 5 and 1, less 1 and 0.
		{Slot: 7, Stage: 0, Op: api.LOp + api.OpMul, Dest: 3, A: 3, B: 5},
		// 3 and 0, less 0 and 1.
		{Slot: 3, Stage: 1, Op: api.LStore, Dest: 5, A: 2, Array: 1, Step: -1, Plus: 5},
		// 1 and 1, less 3 and 1, and 7; 6 and 0, less 0 and 1.
		{Slot: 6, Stage: 1, Op: api.LOp + api.OpLess, Dest: 1, A: 5, B: 5},
	}}
}

func kernelOf(t *testing.T, name string, l api.Loop, m api.Target, p api.Plan, dests []int) api.Kernel {
	t.Helper()
	k, code := Emit(l, m, p, dests)
	if code != api.OK {
		t.Fatalf("%s: code %d of %+v, %+v, %+v, %v", name, code, l, m, p, dests)
	}
	return k
}

func expectKernel(t *testing.T, name string, l api.Loop, m api.Target, p api.Plan, dests []int, want api.Kernel) {
	t.Helper()
	if k := kernelOf(t, name, l, m, p, dests); !reflect.DeepEqual(k, want) {
		t.Errorf("%s: %+v, want %+v", name, k, want)
	}
}

func expectRefused(t *testing.T, name string, l api.Loop, m api.Target, p api.Plan, dests []int) {
	t.Helper()
	k, code := Emit(l, m, p, dests)
	if code != api.ErrForm || k.Pace != 0 || k.Stages != 0 || len(k.Ops) != 0 {
		t.Errorf("%s: %+v, code %d, want nothing and %d", name, k, code, api.ErrForm)
	}
}

func TestLimits(t *testing.T) {
	if api.MaxBody != 16 || api.MaxBack != 3 || api.MaxRegs != 128 || api.MaxPace != 200 || api.MaxTime != 1000 {
		t.Error("the limits are others than those that these tests were written for")
	}
}

func TestEmitSample(t *testing.T) {
	expectKernel(t, "the sample", sample(), machine(), samplePlan(), sampleDests(), sampleKernel())
	// At a pace that takes in the whole turn there is one stage: only turns back move a name.
	slow := sampleKernel()
	slow.Pace, slow.Stages = 20, 1
	for at, time := range samplePlan().Times {
		slow.Ops[at].Slot, slow.Ops[at].Stage = time, 0
	}
	slow.Ops[3].B, slow.Ops[4].A, slow.Ops[5].B = 4, 3, 6
	expectKernel(t, "the sample, in one stage", sample(), machine(), plan(20, samplePlan().Times...), sampleDests(), slow)
}

// A result that is read in the same stage, no turn back, is read by its own Dest.
func TestEmitReadsTheSameStageByItsDest(t *testing.T) {
	l := api.Loop{Body: []api.Stmt{turn(), turn(), add(ref(0, 0), ref(1, 0))}}
	for stage := range 50 {
		for dest := range 7 {
			p := plan(20, 20*stage, 20*stage+3, 20*stage+19)
			k := kernelOf(t, "the same stage", l, machine(), p, []int{dest, 6 - dest, 2})
			if op := k.Ops[2]; op.A != dest || op.B != 6-dest {
				t.Errorf("in the stage %d: %+v, want the registers %d and %d", stage, op, dest, 6-dest)
			}
		}
	}
}

// Each time at each pace: Slot and Stage are the only ones that make it up.
func TestEmitSlotAndStage(t *testing.T) {
	l := api.Loop{Body: []api.Stmt{turn()}}
	for pace := 1; pace <= api.MaxPace; pace++ {
		for time := 0; time <= api.MaxTime; time++ {
			k := kernelOf(t, "one statement", l, machine(), plan(pace, time), []int{4})
			op := k.Ops[0]
			if op.Slot < 0 || op.Slot >= pace || op.Slot+pace*op.Stage != time || k.Stages != op.Stage+1 || k.Pace != pace {
				t.Fatalf("the time %d at the pace %d: %+v", time, pace, k)
			}
		}
	}
}

func TestEmitStages(t *testing.T) {
	one := api.Loop{Body: []api.Stmt{turn()}}
	expectKernel(t, "the most", one, machine(), plan(1, 1000), []int{0}, api.Kernel{Pace: 1, Stages: 1001, Ops: []api.Op{{Stage: 1000, Op: api.LTurn}}})
	expectKernel(t, "the least", one, machine(), plan(1, 0), []int{0}, api.Kernel{Pace: 1, Stages: 1, Ops: []api.Op{{Op: api.LTurn}}})
	expectKernel(t, "the slowest", one, machine(), plan(200, 199), []int{0}, api.Kernel{Pace: 200, Stages: 1, Ops: []api.Op{{Slot: 199, Op: api.LTurn}}})
	// The greatest stage may be that of any statement, the first, one between, or the last.
	l := api.Loop{Body: []api.Stmt{turn(), turn(), turn()}}
	for at := range l.Body {
		p := plan(10, 9, 19, 0)
		p.Times[at] = 77
		if k := kernelOf(t, "three statements", l, machine(), p, []int{0, 0, 0}); k.Stages != 8 || k.Ops[at].Stage != 7 || k.Ops[at].Slot != 7 {
			t.Errorf("the greatest stage is the %dth: %+v", at, k)
		}
	}
}

// Each Op has the fields of its own statement, as far out as they may be, and what it does not look at is 0.
func TestEmitKeepsFields(t *testing.T) {
	for _, n := range []int64{math.MinInt64, -1, 0, 1, math.MaxInt64} {
		l := api.Loop{Body: []api.Stmt{{Op: api.LConst, N: n}}}
		expectKernel(t, "a number", l, machine(), plan(3, 4), []int{6}, api.Kernel{Pace: 3, Stages: 2, Ops: []api.Op{{Slot: 1, Stage: 1, Op: api.LConst, Dest: 6, N: n}}})
	}
	for array := range api.MaxArrays {
		for _, c := range [][2]int{{64, -64}, {-64, 64}, {0, 1}, {1, 0}} {
			l := api.Loop{Logs: []int{5, 5, 5}, Body: []api.Stmt{
				{Op: api.LLoad, Array: array, Step: c[0], Plus: c[1]},
				{Op: api.LStore, Array: array, Step: c[0], Plus: c[1], A: ref(0, 0)},
			}}
			expectKernel(t, "words", l, machine(), plan(4, 0, 3), []int{1, 2}, api.Kernel{Pace: 4, Stages: 1, Ops: []api.Op{
				{Op: api.LLoad, Dest: 1, Array: array, Step: c[0], Plus: c[1]},
				{Slot: 3, Op: api.LStore, Dest: 2, A: 1, Array: array, Step: c[0], Plus: c[1]},
			}})
		}
	}
}

func TestEmitEachOperation(t *testing.T) {
	for op := api.OpAdd; op <= api.OpSame; op++ {
		l := api.Loop{Body: []api.Stmt{turn(), turn(), {Op: api.LOp + op, A: ref(1, 0), B: ref(0, 1)}}}
		expectKernel(t, "an operation", l, machine(), plan(4, 0, 1, 5), []int{5, 3, 0}, api.Kernel{Pace: 4, Stages: 2, Ops: []api.Op{
			{Op: api.LTurn, Dest: 5},
			{Slot: 1, Op: api.LTurn, Dest: 3},
			{Slot: 1, Stage: 1, Op: api.LOp + op, Dest: 0, A: 2, B: 3},
		}})
	}
}

// Each part of a name counts: Dest, Stage and Back of what is looked at, the Stage of what looks, and how many registers there are.
func TestEmitNames(t *testing.T) {
	for _, c := range []struct{ regs, dest, from, to, back, want int }{
		{128, 100, 0, 0, 0, 100},
		{128, 100, 0, 5, 0, 95},
		{128, 100, 3, 5, 0, 98},
		{128, 100, 0, 0, 1, 99},
		{128, 100, 0, 0, 3, 97},
		{128, 100, 3, 5, 2, 96},
		{128, 100, 2, 0, 2, 100},
		{128, 100, 2, 0, 3, 99},
		{128, 100, 9, 8, 1, 100},
		// Down to 0, and around.
		{128, 3, 0, 0, 3, 0},
		{128, 2, 0, 0, 3, 127},
		{128, 0, 0, 1, 0, 127},
		{128, 0, 0, 0, 1, 127},
		{128, 0, 7, 7, 0, 0},
		{7, 4, 0, 2, 2, 0},
		{7, 4, 0, 2, 3, 6},
		{3, 0, 0, 0, 3, 0},
		{2, 0, 0, 0, 3, 1},
		{2, 1, 0, 0, 3, 0},
		// Around many times.
		{128, 127, 0, 199, 0, 56},
		{128, 0, 0, 199, 3, 54},
		{7, 6, 0, 199, 0, 3},
		{7, 6, 0, 199, 3, 0},
		{7, 6, 198, 199, 0, 5},
		{1, 0, 0, 199, 3, 0},
		{1, 0, 0, 0, 0, 0},
	} {
		m := machine()
		m.Regs = c.regs
		// What is looked at is done first, and looked at late in the pace, so that the wait is kept in the same stage too.
		l := api.Loop{Body: []api.Stmt{turn(), add(ref(0, c.back), ref(0, c.back))}}
		k := kernelOf(t, "a name", l, m, plan(5, 5*c.from, 5*c.to+2), []int{c.dest, 0})
		if op := k.Ops[1]; op.A != c.want || op.B != c.want {
			t.Errorf("%+v: %+v", c, k)
		}
	}
}

// The last cycle that there is: a kernel of 1001 stages, and a result that is read 1000 paces on.
func TestEmitNamesOverAllStages(t *testing.T) {
	l := api.Loop{Body: []api.Stmt{turn(), add(ref(0, 3), ref(1, 2))}}
	for regs := 1; regs <= api.MaxRegs; regs++ {
		m := machine()
		m.Regs = regs
		for dest := range regs {
			k := kernelOf(t, "all stages", l, m, plan(1, 0, 1000), []int{dest, regs - 1 - dest})
			// Regs is added so often here that nothing is left below 0.
			a, b := (dest-1003+1003*regs)%regs, (regs-3-dest+2*regs)%regs
			if op := k.Ops[1]; k.Stages != 1001 || op.A != a || op.B != b {
				t.Fatalf("%d registers, %d: %+v, want %d and %d", regs, dest, k, a, b)
			}
		}
	}
}

// A statement may look at itself, and at one behind it, turns back, whose Stage is known only later.
func TestEmitNamesOfStatementsBehind(t *testing.T) {
	l := api.Loop{Body: []api.Stmt{add(ref(1, 1), ref(2, 3)), add(ref(1, 1), ref(0, 0)), turn()}}
	expectKernel(t, "behind", l, machine(), plan(4, 5, 7, 14), []int{2, 4, 6}, api.Kernel{Pace: 4, Stages: 4, Ops: []api.Op{
		// 4 and 1, less 1 and 1; 6 and 3, less 3 and 1.
		{Slot: 1, Stage: 1, Op: api.LOp + api.OpAdd, Dest: 2, A: 3, B: 5},
		// 4 and 1, less 1 and 1; 2 and 1, less 0 and 1.
		{Slot: 3, Stage: 1, Op: api.LOp + api.OpAdd, Dest: 4, A: 3, B: 2},
		{Slot: 2, Stage: 3, Op: api.LTurn, Dest: 6},
	}})
}

// The most statements, all into one register: whether results are lost so is not asked here.
func TestEmitOfTheMostStatements(t *testing.T) {
	l, p, want := api.Loop{}, api.Plan{Pace: 4}, api.Kernel{Pace: 4, Stages: 31}
	for at := range api.MaxBody {
		time := 121 - at
		l.Body, p.Times = append(l.Body, add(ref(at, 2), ref(at, 3))), append(p.Times, time)
		want.Ops = append(want.Ops, api.Op{Slot: time % 4, Stage: time / 4, Op: api.LOp + api.OpAdd, Dest: 6, A: 4, B: 3})
	}
	expectKernel(t, "the most", l, machine(), p, slices.Repeat([]int{6}, api.MaxBody), want)
}

func TestEmitRefusesDests(t *testing.T) {
	for regs := 1; regs <= api.MaxRegs; regs++ {
		m := machine()
		m.Regs = regs
		for at := range sample().Body {
			for _, dest := range append([]int{-1, 0, regs - 1, regs, regs + 1}, wild...) {
				dests := make([]int, 6)
				dests[at] = dest
				if dest == 0 || dest == regs-1 {
					if k := kernelOf(t, "a register", sample(), m, samplePlan(), dests); k.Ops[at].Dest != dest {
						t.Errorf("%d as the %dth: %+v", dest, at, k)
					}
					continue
				}
				expectRefused(t, fmt.Sprint("the register ", dest, " of ", regs), sample(), m, samplePlan(), dests)
			}
		}
	}
}

func TestEmitRefusesDestsThatAreNotAsManyAsStatements(t *testing.T) {
	for n := range api.MaxBody + 3 {
		if n != 6 {
			expectRefused(t, fmt.Sprint(n, " dests"), sample(), machine(), samplePlan(), make([]int, n))
		}
	}
	expectRefused(t, "no dests", sample(), machine(), samplePlan(), nil)
	expectRefused(t, "very many dests", sample(), machine(), samplePlan(), make([]int, 1<<20))
	expectRefused(t, "nothing at all", api.Loop{}, api.Target{}, api.Plan{}, nil)
}

func TestEmitRefusesPlans(t *testing.T) {
	spoil := map[string]func(*api.Plan){
		"no plan at all":             func(p *api.Plan) { *p = api.Plan{} },
		"no times":                   func(p *api.Plan) { p.Times = nil },
		"a time too few":             func(p *api.Plan) { p.Times = p.Times[:5] },
		"a time too many":            func(p *api.Plan) { p.Times = append(p.Times, 16) },
		"very many times":            func(p *api.Plan) { p.Times = make([]int, 1<<20) },
		"no pace":                    func(p *api.Plan) { p.Pace = 0 },
		"a pace below 0":             func(p *api.Plan) { p.Pace = -9 },
		"a pace beyond":              func(p *api.Plan) { p.Pace = 201 },
		"a time below 0":             func(p *api.Plan) { p.Times[1] = -1 },
		"a time beyond":              func(p *api.Plan) { p.Times[1] = 1001 },
		"a word not yet stored":      func(p *api.Plan) { p.Pace = 8 },
		"a result not yet there":     func(p *api.Plan) { p.Times[3] = 6 },
		"a result of one turn back":  func(p *api.Plan) { p.Times[4] = 14 },
		"a result of the same pace":  func(p *api.Plan) { p.Times[0] = 14 },
		"each statement at one time": func(p *api.Plan) { p.Times = make([]int, 6) },
	}
	for _, n := range wild {
		spoil[fmt.Sprint("a wild pace ", n)] = func(p *api.Plan) { p.Pace = n }
		spoil[fmt.Sprint("a wild time ", n)] = func(p *api.Plan) { p.Times[5] = n }
	}
	for name, change := range spoil {
		p := samplePlan()
		change(&p)
		expectRefused(t, name, sample(), machine(), p, sampleDests())
		expectRefused(t, name+", and a register that is none", sample(), machine(), p, []int{6, 0, 3, 3, 5, 7})
	}
}

// As many statements of a class as there are units may have times with the same rest, and no more.
func TestEmitRefusesTooFewUnits(t *testing.T) {
	l := api.Loop{Logs: []int{5}, Body: []api.Stmt{turn(), turn(), add(ref(0, 3), ref(1, 3)), {Op: api.LLoad, Step: 1}, {Op: api.LLoad, Step: 1}}}
	p := plan(6, 1, 13, 7, 2, 8)
	dests := make([]int, 5)
	m := machine()
	m.Units = [3]int{3, 1, 2}
	kernelOf(t, "units enough", l, m, p, dests)
	m.Units = [3]int{2, 1, 2}
	expectRefused(t, "too few plain units", l, m, p, dests)
	m.Units = [3]int{3, 4, 1}
	expectRefused(t, "too few units of memory", l, m, p, dests)
}

func TestEmitRefusesLoops(t *testing.T) {
	spoil := map[string]func(*api.Loop){
		"no such op":         func(l *api.Loop) { l.Body[1].Op = 0 },
		"no such operation":  func(l *api.Loop) { l.Body[3].Op = api.LOp + api.OpSame + 1 },
		"a field not named":  func(l *api.Loop) { l.Body[1].N = 1 },
		"a ref not named":    func(l *api.Loop) { l.Body[4].B = ref(1, 0) },
		"a ref to itself":    func(l *api.Loop) { l.Body[3].A = ref(3, 0) },
		"a ref on":           func(l *api.Loop) { l.Body[3].A = ref(4, 0) },
		"a ref too far back": func(l *api.Loop) { l.Body[3].A = ref(0, 4) },
		"a ref ahead":        func(l *api.Loop) { l.Body[3].A = ref(0, -1) },
		"a ref to none":      func(l *api.Loop) { l.Body[3].B = ref(6, 1) },
		"no such array":      func(l *api.Loop) { l.Body[2].Array = 2 },
		"a step beyond":      func(l *api.Loop) { l.Body[2].Step = 65 },
		"a plus beyond":      func(l *api.Loop) { l.Body[4].Plus = -65 },
		"a log beyond":       func(l *api.Loop) { l.Logs[0] = 6 },
		"no arrays":          func(l *api.Loop) { l.Logs = nil },
		"too many arrays":    func(l *api.Loop) { l.Logs = []int{0, 3, 0, 0} },
		"outs not rising":    func(l *api.Loop) { l.Outs = []int{1, 1} },
		"outs beyond":        func(l *api.Loop) { l.Outs = []int{6} },
	}
	for _, n := range wild {
		spoil[fmt.Sprint("a wild log ", n)] = func(l *api.Loop) { l.Logs[1] = n }
		spoil[fmt.Sprint("a wild ref ", n)] = func(l *api.Loop) { l.Body[3].A.At = n }
		spoil[fmt.Sprint("a wild back ", n)] = func(l *api.Loop) { l.Body[3].A.Back = n }
		spoil[fmt.Sprint("a wild array ", n)] = func(l *api.Loop) { l.Body[4].Array = n }
		spoil[fmt.Sprint("a wild op ", n)] = func(l *api.Loop) { l.Body[3].Op = n }
		spoil[fmt.Sprint("a wild out ", n)] = func(l *api.Loop) { l.Outs[1] = n }
	}
	for name, change := range spoil {
		l := sample()
		change(&l)
		expectRefused(t, name, l, machine(), samplePlan(), sampleDests())
		expectRefused(t, name+", and no machine", l, api.Target{}, samplePlan(), sampleDests())
	}
	for _, n := range []int{0, 17, 1 << 12} {
		l := api.Loop{Body: slices.Repeat([]api.Stmt{turn()}, n)}
		p := api.Plan{Pace: 200, Times: make([]int, n)}
		for at := range n {
			p.Times[at] = at % 200
		}
		expectRefused(t, fmt.Sprint(n, " statements"), l, machine(), p, make([]int, n))
	}
}

func TestEmitRefusesMachines(t *testing.T) {
	all := []api.Target{{}}
	for class := range 3 {
		for _, n := range append([]int{-1, 0, 7}, wild...) {
			m := machine()
			m.Units[class] = n
			all = append(all, m)
			m = machine()
			m.Wait[class] = n
			all = append(all, m)
		}
	}
	for _, n := range append([]int{-1, 0, 129}, wild...) {
		m := machine()
		m.Regs = n
		all = append(all, m)
	}
	for _, m := range all {
		expectRefused(t, "no machine", sample(), m, samplePlan(), sampleDests())
		expectRefused(t, "no machine, no edge", api.Loop{Body: []api.Stmt{turn()}}, m, plan(1, 0), []int{0})
	}
}

// behind lays list at the beginning of a longer one, so that more stands behind its length.
func behind[T any](list []T, more ...T) []T {
	return slices.Concat(list, more)[: len(list) : len(list)+len(more)]
}

func TestEmitReadsAndWritesNothingBehindALength(t *testing.T) {
	l, p, dests := sample(), samplePlan(), sampleDests()
	more := add(ref(0, 0), ref(6, 1))
	l.Logs, l.Body, l.Outs = behind(l.Logs, 9), behind(l.Body, more), behind(l.Outs, 2)
	p.Times, dests = behind(p.Times, 4000), behind(dests, -5)
	expectKernel(t, "more behind the lengths", l, machine(), p, dests, sampleKernel())
	short := behind(dests[:5], 1, 1)
	expectRefused(t, "a register too few, that stands behind the length", l, machine(), p, short)
	early := plan(9, behind(p.Times[:5], 15, 16)...)
	expectRefused(t, "a time too few, that stands behind the length", l, machine(), early, dests)
	if l.Logs[:3][2] != 9 || l.Body[:7][6] != more || l.Outs[:3][2] != 2 || p.Times[:7][6] != 4000 || dests[:7][6] != -5 {
		t.Errorf("written behind the lengths: %+v, %+v, %v", l, p, dests)
	}
}

// An answer is nobody else's: what is written into it changes neither what was handed in nor what is answered next.
func TestEmitAnswersNewMemory(t *testing.T) {
	l, p, dests := sample(), samplePlan(), sampleDests()
	for range 3 {
		k := kernelOf(t, "the sample", l, machine(), p, dests)
		if !reflect.DeepEqual(k, sampleKernel()) {
			t.Errorf("once more: %+v", k)
		}
		for at := range k.Ops[:cap(k.Ops)] {
			k.Ops[:cap(k.Ops)][at] = api.Op{Slot: 99, Stage: 99, Op: 99, Dest: 99, A: 99, B: 99, N: 99}
		}
	}
	if !reflect.DeepEqual(l, sample()) || !reflect.DeepEqual(p, samplePlan()) || !slices.Equal(dests, sampleDests()) {
		t.Errorf("changed: %+v, %+v, %v", l, p, dests)
	}
}
