package kernel

import (
	"math"
	"slices"
	"testing"

	"roundelay/api"
	"roundelay/loop"
)

// wild are numbers that no field but N ever takes.
var wild = []int{math.MinInt, math.MinInt + 1, math.MinInt32, -1 << 20, -1001, -65, -2, -1, 1002, 1 << 16, math.MaxInt32, 1 << 32, 1<<32 + 1, 1 << 62, math.MaxInt - 1, math.MaxInt}

func aTarget() api.Target {
	return api.Target{Units: [3]int{2, 1, 2}, Wait: [3]int{1, 3, 2}, Regs: 7}
}

// aKernel has an Op of each kind, at all of its Slots.
func aKernel() api.Kernel {
	return api.Kernel{Pace: 3, Stages: 3, Ops: []api.Op{
		{Op: api.LConst, N: -9, Dest: 6},
		{Slot: 1, Op: api.LTurn, Dest: 5},
		{Slot: 2, Op: api.LLoad, Dest: 4, Array: 1, Step: 64, Plus: -64},
		{Slot: 2, Stage: 1, Op: api.LStore, Dest: 3, A: 6, Step: -64, Plus: 64},
		{Slot: 1, Stage: 2, Op: api.LOp + api.OpMul, Dest: 2, A: 6, B: 1},
		{Stage: 1, Op: api.LOp + api.OpSame, Dest: 1, B: 6},
	}}
}

func someLogs() []int { return []int{0, 5} }

func expectMay(t *testing.T, name string, m api.Target, k api.Kernel, logs []int, want bool) {
	t.Helper()
	if May(m, k, logs) != want {
		t.Errorf("%s: May(%v, %v, %v) = %v", name, m, k, logs, !want)
	}
}

// with is the kernel with one Op changed.
func with(at int, change func(*api.Op)) api.Kernel {
	k := aKernel()
	change(&k.Ops[at])
	return k
}

func TestMayOrdinary(t *testing.T) {
	expectMay(t, "all kinds", aTarget(), aKernel(), someLogs(), true)
	for op := api.OpAdd; op <= api.OpSame; op++ {
		k := with(5, func(o *api.Op) { o.Op = api.LOp + op })
		expectMay(t, "an operation", aTarget(), k, someLogs(), true)
	}
	one := api.Kernel{Pace: 1, Stages: 1, Ops: []api.Op{{Op: api.LTurn}}}
	expectMay(t, "the least", api.Target{Units: [3]int{1, 1, 1}, Wait: [3]int{1, 1, 1}, Regs: 1}, one, nil, true)
	expectMay(t, "nothing", api.Target{}, api.Kernel{}, nil, false)
}

func TestMayMachine(t *testing.T) {
	spoil := map[string]func(*api.Target){
		"no unit":           func(m *api.Target) { m.Units[1] = 0 },
		"units beyond":      func(m *api.Target) { m.Units[2] = api.MaxUnits + 1 },
		"no wait":           func(m *api.Target) { m.Wait[0] = 0 },
		"a wait beyond":     func(m *api.Target) { m.Wait[2] = api.MaxWait + 1 },
		"registers beyond":  func(m *api.Target) { m.Regs = api.MaxRegs + 1 },
		"no registers":      func(m *api.Target) { m.Regs = 0 },
		"registers below 0": func(m *api.Target) { m.Regs = -1 },
	}
	for name, change := range spoil {
		m := aTarget()
		change(&m)
		expectMay(t, name, m, aKernel(), someLogs(), false)
		// A machine that the kernel asks nothing of but one unit must still be one that may be.
		expectMay(t, name, m, api.Kernel{Pace: 1, Stages: 1, Ops: []api.Op{{Op: api.LTurn}}}, nil, false)
	}
}

func TestMayLogs(t *testing.T) {
	load := api.Kernel{Pace: 1, Stages: 1, Ops: []api.Op{{Op: api.LLoad}}}
	plain := api.Kernel{Pace: 1, Stages: 1, Ops: []api.Op{{Op: api.LTurn}}}
	for arrays := range api.MaxArrays + 3 {
		logs := make([]int, arrays)
		may := arrays <= api.MaxArrays
		expectMay(t, "arrays, none looked at", aTarget(), plain, logs, may)
		for array := -1; array <= 5; array++ {
			load.Ops[0].Array = array
			expectMay(t, "arrays", aTarget(), load, logs, may && 0 <= array && array < arrays)
		}
	}
	for at := range api.MaxArrays {
		for _, log := range append([]int{0, 1, 2, 3, 4, 5, 6, 7, 32, 64}, wild...) {
			logs := []int{1, 2, 3}
			logs[at] = log
			expectMay(t, "a log", aTarget(), plain, logs, 0 <= log && log <= api.MaxLog)
		}
	}
}

func TestMayPaceAndStages(t *testing.T) {
	k := api.Kernel{Pace: 1, Stages: 1, Ops: []api.Op{{Op: api.LTurn}}}
	for pace := -3; pace <= 210; pace++ {
		k.Pace = pace
		expectMay(t, "a pace", aTarget(), k, nil, 1 <= pace && pace <= api.MaxPace)
	}
	for _, stages := range []int{1, api.MaxTime + 1} {
		k.Stages = stages
		for _, pace := range wild {
			k.Pace = pace
			expectMay(t, "a pace beyond", aTarget(), k, nil, false)
		}
	}
	for _, pace := range []int{1, api.MaxPace} {
		k.Pace = pace
		for stages := -3; stages <= api.MaxTime+5; stages++ {
			k.Stages = stages
			expectMay(t, "stages", aTarget(), k, nil, 1 <= stages && stages <= api.MaxTime+1)
		}
		for _, stages := range wild {
			k.Stages = stages
			expectMay(t, "stages beyond", aTarget(), k, nil, false)
		}
	}
}

func TestMaySlotAndStage(t *testing.T) {
	for _, pace := range []int{1, 2, 3, 7, 199, 200} {
		for _, stages := range []int{1, 2, 5, 6, 7, 334, 335, 1001} {
			for _, slot := range append([]int{0, 1, 2, 3, 6, 7, 198, 199, 200, 201}, wild...) {
				for _, stage := range append([]int{0, 1, 4, 5, 6, 142, 143, 332, 333, 334, 499, 500, 501, 999, 1000, 1001}, wild...) {
					k := api.Kernel{Pace: pace, Stages: stages, Ops: []api.Op{{Op: api.LTurn}, {Op: api.LTurn, Slot: slot, Stage: stage}}}
					may := 0 <= slot && slot < pace && 0 <= stage && stage < stages && slot+pace*stage <= 1000
					expectMay(t, "a time", aTarget(), k, nil, may)
				}
			}
		}
	}
}

func TestMayHowManyOps(t *testing.T) {
	for ops := range api.MaxBody + 3 {
		k := api.Kernel{Pace: 20, Stages: 1}
		for slot := range ops {
			k.Ops = append(k.Ops, api.Op{Op: api.LTurn, Slot: slot})
		}
		expectMay(t, "ops", aTarget(), k, nil, 1 <= ops && ops <= api.MaxBody)
	}
}

func TestMayOpNumbers(t *testing.T) {
	m := aTarget()
	for op := -20; op <= 40; op++ {
		k := api.Kernel{Pace: 1, Stages: 1, Ops: []api.Op{{Op: op}}}
		may := 1 <= op && op <= 4 || 11 <= op && op <= 18
		expectMay(t, "an op", m, k, []int{0}, may)
	}
	for _, op := range wild {
		k := api.Kernel{Pace: 1, Stages: 1, Ops: []api.Op{{Op: op}}}
		expectMay(t, "an op beyond", m, k, []int{0}, false)
	}
}

// names tells which fields Ops have, by the table of statements.
func names(op int) (n, word, a, b bool) {
	switch {
	case op == api.LConst:
		n = true
	case op == api.LLoad:
		word = true
	case op == api.LStore:
		word, a = true, true
	case op > api.LOp:
		a, b = true, true
	}
	return n, word, a, b
}

func TestMayFields(t *testing.T) {
	m := aTarget()
	numbers := append([]int{0, 1, 2, 3, 5, 6, 7, 8, 63, 64, 65}, wild...)
	numbers = append(numbers, -63, -64)
	for at, op := range aKernel().Ops {
		n, word, a, b := names(op.Op)
		for _, x := range numbers {
			register := 0 <= x && x < m.Regs
			step := -64 <= x && x <= 64
			for _, c := range []struct {
				name   string
				change func(*api.Op)
				may    bool
			}{
				{"Dest", func(o *api.Op) { o.Dest = x }, register},
				{"A", func(o *api.Op) { o.A = x }, x == 0 || a && register},
				{"B", func(o *api.Op) { o.B = x }, x == 0 || b && register},
				{"Array", func(o *api.Op) { o.Array = x }, x == 0 || word && x == 1},
				{"Step", func(o *api.Op) { o.Step = x }, x == 0 || word && step},
				{"Plus", func(o *api.Op) { o.Plus = x }, x == 0 || word && step},
				{"N", func(o *api.Op) { o.N = int64(x) }, x == 0 || n},
			} {
				expectMay(t, c.name, m, with(at, c.change), someLogs(), c.may)
			}
		}
	}
}

func TestMayRegisters(t *testing.T) {
	for _, regs := range []int{1, 2, 31, 128} {
		m := aTarget()
		m.Regs = regs
		for _, r := range append([]int{0, 1, 2, 30, 31, 127, 128}, wild...) {
			may := 0 <= r && r < regs
			for _, op := range []api.Op{
				{Op: api.LTurn, Dest: r},
				{Op: api.LStore, Dest: r},
				{Op: api.LStore, A: r},
				{Op: api.LOp + api.OpAdd, A: r},
				{Op: api.LOp + api.OpSame, B: r},
			} {
				k := api.Kernel{Pace: 1, Stages: 1, Ops: []api.Op{op}}
				expectMay(t, "a register", m, k, []int{0}, may)
			}
		}
	}
}

// ofClass are Ops of each class.
var ofClass = [3][]int{
	{api.LConst, api.LTurn, api.LOp + api.OpAdd, api.LOp + api.OpSub, api.LOp + api.OpAnd, api.LOp + api.OpOr, api.LOp + api.OpXor, api.LOp + api.OpLess, api.LOp + api.OpSame},
	{api.LOp + api.OpMul},
	{api.LLoad, api.LStore},
}

func TestMayUnits(t *testing.T) {
	for class, kinds := range ofClass {
		for units := 1; units <= api.MaxUnits; units++ {
			m := api.Target{Units: [3]int{1, 1, 1}, Wait: [3]int{1, 1, 1}, Regs: 1}
			m.Units[class] = units
			for ops := 1; ops <= api.MaxBody; ops++ {
				k := api.Kernel{Pace: 2, Stages: 3}
				for i := range ops {
					// What Stage an Op has does not matter: all turns share the units.
					k.Ops = append(k.Ops, api.Op{Slot: 1, Stage: i % 3, Op: kinds[i%len(kinds)]})
				}
				expectMay(t, "one slot", m, k, []int{0}, ops <= units)
				for i := range k.Ops {
					k.Ops[i].Slot = i % 2
				}
				expectMay(t, "two slots", m, k, []int{0}, (ops+1)/2 <= units)
			}
		}
	}
}

func TestMayUnitsOfEachClassForThemselves(t *testing.T) {
	k := api.Kernel{Pace: 1, Stages: 1}
	for _, op := range []int{api.LTurn, api.LOp + api.OpMul, api.LLoad} {
		k.Ops = append(k.Ops, api.Op{Op: op})
	}
	m := api.Target{Units: [3]int{1, 1, 1}, Wait: [3]int{1, 1, 1}, Regs: 1}
	expectMay(t, "one of each", m, k, []int{0}, true)
	for at := range k.Ops {
		more := k
		more.Ops = append(slices.Clone(k.Ops), k.Ops[at])
		expectMay(t, "two of one", m, more, []int{0}, false)
		enough := m
		enough.Units[at] = 2
		expectMay(t, "two of one, two units", enough, more, []int{0}, true)
	}
}

func TestMayLeavesItsArguments(t *testing.T) {
	k, logs := aKernel(), someLogs()
	k.Ops = slices.Concat(k.Ops, []api.Op{{Op: -1}})[:len(k.Ops)]
	logs = slices.Concat(logs, []int{-1})[:len(logs)]
	expectMay(t, "more behind the lengths", aTarget(), k, logs, true)
	if !slices.Equal(k.Ops, aKernel().Ops) || !slices.Equal(logs, someLogs()) || k.Ops[:7][6].Op != -1 || logs[:3][2] != -1 {
		t.Errorf("changed: %v %v", k, logs)
	}
}

// What an Op reads of registers is what a statement of the same Op looks at.
func TestMayAsStatementsLook(t *testing.T) {
	for op := -2; op <= 25; op++ {
		for a := range 2 {
			for b := range 2 {
				k := api.Kernel{Pace: 1, Stages: 1, Ops: []api.Op{{Op: op, A: a, B: b}}}
				l := api.Loop{Logs: []int{0}, Body: []api.Stmt{{Op: op, A: api.Ref{Back: a}, B: api.Ref{Back: b}}}}
				// A statement must look one turn back where it may look at all.
				if loop.Looks(op) >= 1 {
					l.Body[0].A.Back = 1
				}
				if loop.Looks(op) == 2 {
					l.Body[0].B.Back = 1
				}
				expectMay(t, "as a statement", aTarget(), k, l.Logs, loop.May(l))
			}
		}
	}
}
