package kernel

import (
	"math"
	"math/rand"
	"reflect"
	"slices"
	"testing"

	"roundelay/api"
)

// simple is a machine on which all waits are 1, with as many units as may be.
func simple(regs int) api.Target {
	return api.Target{Units: [3]int{4, 4, 4}, Wait: [3]int{1, 1, 1}, Regs: regs}
}

func expectRun(t *testing.T, name string, m api.Target, k api.Kernel, regs []int64, memory [][]int64, turns int, wantRegs []int64, wantMemory [][]int64) {
	t.Helper()
	gotRegs, gotMemory, err := Run(m, k, regs, memory, turns)
	if err != api.OK || !slices.Equal(gotRegs, wantRegs) || !slices.EqualFunc(gotMemory, wantMemory, slices.Equal[[]int64]) {
		t.Errorf("%s: Run of %d turns = %v, %v, %d, want %v, %v", name, turns, gotRegs, gotMemory, err, wantRegs, wantMemory)
	}
}

func expectRefused(t *testing.T, name string, m api.Target, k api.Kernel, regs []int64, memory [][]int64, turns int, want api.Errno) {
	t.Helper()
	gotRegs, gotMemory, err := Run(m, k, regs, memory, turns)
	if err != want || len(gotRegs) != 0 || len(gotMemory) != 0 {
		t.Errorf("%s: Run of %d turns = %v, %v, %d, want nothing, %d", name, turns, gotRegs, gotMemory, err, want)
	}
}

func someRegs() []int64 { return []int64{10, 20, 30, 40, 50, 60, 70} }

// someWords are words of arrays with someLogs.
func someWords() [][]int64 {
	words := [][]int64{{-1}, make([]int64, 32)}
	for i := range words[1] {
		words[1][i] = int64(100 + i)
	}
	return words
}

func TestRunTurnsTheRegisters(t *testing.T) {
	k := api.Kernel{Pace: 1, Stages: 1, Ops: []api.Op{{Op: api.LTurn}}}
	expectRun(t, "the example", simple(3), k, []int64{9, 9, 9}, nil, 3, []int64{0, 1, 2}, nil)
	expectRun(t, "once round", simple(3), k, []int64{9, 9, 9}, nil, 5, []int64{3, 4, 2}, nil)
	expectRun(t, "fewer turns", simple(3), k, []int64{9, 9, 9}, nil, 1, []int64{0, 9, 9}, nil)
	expectRun(t, "one register", simple(1), k, []int64{9}, nil, 4, []int64{3}, nil)
	k.Ops[0].Dest = 2
	expectRun(t, "from the last one on", simple(3), k, []int64{9, 9, 9}, nil, 2, []int64{1, 9, 0}, nil)
	k.Stages = 3
	expectRun(t, "paces behind the last turn", simple(3), k, []int64{9, 9, 9}, nil, 2, []int64{1, 9, 0}, nil)
	k.Ops[0].Stage = 2
	expectRun(t, "two paces later", simple(3), k, []int64{9, 9, 9}, nil, 2, []int64{9, 0, 1}, nil)
}

// The register that a result goes to is the one of the pace in which its Op was done, however many paces later it is due.
func TestRunDestOfThePaceOfTheOp(t *testing.T) {
	for wait := 1; wait <= api.MaxWait; wait++ {
		m := simple(10)
		m.Wait[api.ClassPlain] = wait
		k := api.Kernel{Pace: 1, Stages: 1, Ops: []api.Op{{Op: api.LTurn, Dest: 1}}}
		expectRun(t, "a wait", m, k, make([]int64, 10), nil, 9, []int64{0, 0, 1, 2, 3, 4, 5, 6, 7, 8}, nil)
	}
}

func TestRunNoTurns(t *testing.T) {
	expectRun(t, "no turns", aTarget(), aKernel(), someRegs(), someWords(), 0, someRegs(), someWords())
	k := api.Kernel{Pace: 1, Stages: 1001, Ops: []api.Op{{Op: api.LTurn, Stage: 1000}}}
	expectRun(t, "no turns, no arrays", simple(2), k, []int64{math.MinInt64, math.MaxInt64}, nil, 0, []int64{math.MinInt64, math.MaxInt64}, nil)
	expectRun(t, "no turns, empty arrays", simple(2), k, []int64{1, 2}, [][]int64{}, 0, []int64{1, 2}, nil)
}

func TestRunHowManyTurns(t *testing.T) {
	for turns := range api.MaxTurns + 1 {
		for stages := 1; stages <= 4; stages++ {
			for stage := range stages {
				// Each pace that has a turn for the Op triples the one register, whatever its number then is.
				k := api.Kernel{Pace: 2, Stages: stages, Ops: []api.Op{
					{Stage: stage, Op: api.LConst, N: 3, Dest: 1},
					{Slot: 1, Stage: stage, Op: api.LOp + api.OpMul, A: 0, B: 1, Dest: 1},
				}}
				want := make([]int64, 2)
				want[0], want[1] = tripled(turns, stage)
				expectRun(t, "turns within", simple(2), k, []int64{1, 1}, nil, turns, want, nil)
			}
		}
	}
	k := api.Kernel{Pace: 1, Stages: 1, Ops: []api.Op{{Op: api.LTurn}}}
	for _, turns := range append([]int{201, 202, 256, 1000}, wild...) {
		expectRefused(t, "turns beyond", simple(1), k, []int64{1}, nil, turns, api.ErrRange)
		expectRefused(t, "turns beyond, with arrays", aTarget(), aKernel(), someRegs(), someWords(), turns, api.ErrRange)
	}
}

// tripled is what two registers are, when from a pace on the one gets 3 times the other, which then is the one.
func tripled(turns, first int) (int64, int64) {
	regs := [2]int64{1, 1}
	for pace := first; pace < first+turns; pace++ {
		regs[(pace+1)%2] = 3 * regs[pace%2]
	}
	return regs[0], regs[1]
}

func TestRunLongest(t *testing.T) {
	// The store is done at MaxTime, one cycle behind the turn's number, and puts it where it was read.
	k := api.Kernel{Pace: api.MaxPace, Stages: api.MaxTime + 1, Ops: []api.Op{
		{Slot: 199, Stage: 4, Op: api.LTurn, Dest: 3},
		{Stage: 5, Op: api.LStore, A: 2, Dest: 2, Step: 1},
	}}
	regs, words := make([]int64, 128), make([]int64, 32)
	for turn := range api.MaxTurns {
		regs[(3+turn+4)%128] = int64(turn)
		words[turn%32] = int64(turn)
	}
	expectRun(t, "the longest", simple(128), k, make([]int64, 128), [][]int64{make([]int64, 32)}, api.MaxTurns, regs, [][]int64{words})
}

func TestRunRefusesForm(t *testing.T) {
	type input struct {
		m      api.Target
		k      api.Kernel
		regs   []int64
		memory [][]int64
	}
	spoil := map[string]func(*input){
		"a machine that may not be": func(i *input) { i.m.Wait[0] = 0 },
		"no machine":                func(i *input) { i.m, i.regs = api.Target{}, nil },
		"no kernel":                 func(i *input) { i.k = api.Kernel{} },
		"no ops":                    func(i *input) { i.k.Ops = nil },
		"no pace":                   func(i *input) { i.k.Pace = 0 },
		"a stage beyond":            func(i *input) { i.k.Stages = 2 },
		"a slot beyond":             func(i *input) { i.k.Ops[0].Slot = 3 },
		"a register beyond":         func(i *input) { i.k.Ops[0].Dest = 7 },
		"a register not looked at":  func(i *input) { i.k.Ops[3].B = 1 },
		"units beyond":              func(i *input) { i.m.Units[api.ClassMemory] = 1 },
		"no such array":             func(i *input) { i.k.Ops[2].Array = 2 },
		"an array too few":          func(i *input) { i.memory = i.memory[:1] },
		"no arrays":                 func(i *input) { i.memory = nil },
		"arrays beyond":             func(i *input) { i.memory = append(i.memory, []int64{0}, []int64{0}) },
		"an array without words":    func(i *input) { i.memory[0] = nil },
		"an array not looked at":    func(i *input) { i.memory = append(i.memory, []int64{}) },
		"three words":               func(i *input) { i.memory[0] = []int64{1, 2, 3} },
		"a word too few":            func(i *input) { i.memory[1] = i.memory[1][:31] },
		"a word too many":           func(i *input) { i.memory[1] = append(i.memory[1], 0) },
		"a log beyond":              func(i *input) { i.memory[1] = make([]int64, 64) },
		"a log far beyond":          func(i *input) { i.memory[1] = make([]int64, 1<<16) },
		"no registers":              func(i *input) { i.regs = nil },
		"a register too few":        func(i *input) { i.regs = i.regs[:6] },
		"a register too many":       func(i *input) { i.regs = append(i.regs, 0) },
	}
	for name, change := range spoil {
		i := input{aTarget(), aKernel(), someRegs(), someWords()}
		change(&i)
		// The form is told first, whatever the turns are.
		for _, turns := range append([]int{0, 1, 200, 201}, wild...) {
			expectRefused(t, name, i.m, i.k, i.regs, i.memory, turns, api.ErrForm)
		}
	}
}

func TestRunSizesOfArrays(t *testing.T) {
	k := api.Kernel{Pace: 1, Stages: 1, Ops: []api.Op{{Op: api.LTurn}}}
	for size := range 70 {
		for at := range api.MaxArrays {
			memory := [][]int64{{1}, {1, 2}, {1, 2, 3, 4}}
			memory[at] = make([]int64, size)
			if slices.Contains([]int{1, 2, 4, 8, 16, 32}, size) {
				expectRun(t, "a size", simple(2), k, []int64{5, 6}, memory, 1, []int64{0, 6}, memory)
			} else {
				expectRefused(t, "a size", simple(2), k, []int64{5, 6}, memory, 1, api.ErrForm)
			}
		}
	}
}

// A result is there in the very cycle in which it is due, and not in the one ahead of it.
func TestRunResultsWhenDue(t *testing.T) {
	for class, op := range []api.Op{{Op: api.LConst, N: 77}, {Op: api.LOp + api.OpMul, A: 1, B: 1}, {Op: api.LLoad}} {
		for wait := 1; wait <= api.MaxWait; wait++ {
			m := simple(4)
			m.Wait = [3]int{2, 2, 2}
			m.Wait[class] = wait
			for slot := 1; slot <= 8; slot++ {
				k := api.Kernel{Pace: 9, Stages: 1, Ops: []api.Op{op, {Slot: slot, Op: api.LOp + api.OpAdd, A: 0, B: 2, Dest: 3}}}
				read := int64(5)
				came := map[int]int64{0: 77, 1: 121, 2: 33}[class]
				if slot >= wait {
					read = came
				}
				expectRun(t, "a result", m, k, []int64{5, 11, 0, 0}, [][]int64{{33}}, 1, []int64{came, 11, 0, read}, [][]int64{{33}})
			}
		}
	}
}

// In its own cycle an Op, even a later one, reads registers as they were ahead of it.
func TestRunReadsAheadOfResults(t *testing.T) {
	k := api.Kernel{Pace: 1, Stages: 1, Ops: []api.Op{
		{Op: api.LConst, N: 5, Dest: 0},
		{Op: api.LOp + api.OpAdd, A: 0, B: 1, Dest: 1},
		{Op: api.LOp + api.OpSub, A: 0, B: 1, Dest: 2},
	}}
	expectRun(t, "one cycle", simple(3), k, []int64{100, 10, 1}, nil, 1, []int64{5, 110, 90}, nil)
}

// Cycles are counted through all paces: a result of one pace is due in a later one.
func TestRunResultsAcrossPaces(t *testing.T) {
	m := simple(6)
	m.Wait[api.ClassPlain] = 5
	// In the pace 0 the register 0 gets 7, in the cycle 5 = the pace 2's Slot 1. There it is number 4.
	for slot := range 2 {
		k := api.Kernel{Pace: 2, Stages: 3, Ops: []api.Op{
			{Op: api.LConst, N: 7},
			{Slot: slot, Stage: 2, Op: api.LOp + api.OpMul, A: 4, B: 4, Dest: 1},
		}}
		want := []int64{7, 2, 2, 4, 2, 2}
		if slot == 1 {
			want[3] = 49
		}
		expectRun(t, "two paces on", m, k, []int64{2, 2, 2, 2, 2, 2}, nil, 1, want, nil)
	}
}

func TestRunEachOperation(t *testing.T) {
	for i, want := range []int64{-2, 14, -48, 0, -2, -2, 0, 0} {
		k := api.Kernel{Pace: 1, Stages: 1, Ops: []api.Op{{Op: api.LOp + api.OpAdd + i, A: 1, B: 2, Dest: 0}}}
		expectRun(t, "an operation", simple(3), k, []int64{1, 6, -8}, nil, 1, []int64{want, 6, -8}, nil)
	}
	k := api.Kernel{Pace: 1, Stages: 1, Ops: []api.Op{{Op: api.LOp + api.OpLess, A: 2, B: 1}}}
	expectRun(t, "less", simple(3), k, []int64{7, 6, -8}, nil, 1, []int64{1, 6, -8}, nil)
	k.Ops[0] = api.Op{Op: api.LOp + api.OpSame, A: 1, B: 1}
	expectRun(t, "same", simple(3), k, []int64{7, 6, -8}, nil, 1, []int64{1, 6, -8}, nil)
	for _, n := range []int64{math.MinInt64, -1, 0, 1, math.MaxInt64} {
		k.Ops[0] = api.Op{Op: api.LConst, N: n}
		expectRun(t, "a constant", simple(1), k, []int64{7}, nil, 1, []int64{n}, nil)
	}
}

// A store is also a result: its register becomes what A's register was.
func TestRunStoreHasAResult(t *testing.T) {
	m := simple(3)
	m.Wait[api.ClassMemory] = 4
	k := api.Kernel{Pace: 1, Stages: 1, Ops: []api.Op{{Op: api.LStore, A: 1, Dest: 2, Plus: 3}}}
	expectRun(t, "a store", m, k, []int64{1, 2, 3}, [][]int64{{9, 9, 9, 9}}, 1, []int64{1, 2, 2}, [][]int64{{9, 9, 9, 2}})
}

// A word is stored at the end of its Op's cycle, however long the result waits: loads of that cycle find it as it was, those of the next one as it is.
func TestRunWordsWhenStored(t *testing.T) {
	for wait := 1; wait <= api.MaxWait; wait++ {
		m := simple(5)
		m.Wait[api.ClassMemory] = wait
		store, load := api.Op{Slot: 1, Op: api.LStore, A: 0, Dest: 1}, api.Op{Op: api.LLoad, Dest: 2}
		for slot, want := range []int64{9, 9, 4} {
			load.Slot = slot
			for _, ops := range [][]api.Op{{store, load}, {load, store}} {
				k := api.Kernel{Pace: 3, Stages: 1, Ops: ops}
				expectRun(t, "a word", m, k, []int64{4, 0, 0, 0, 0}, [][]int64{{9}}, 1, []int64{4, 4, want, 0, 0}, [][]int64{{4}})
			}
		}
	}
}

func TestRunStoresOfOneCycleInOrder(t *testing.T) {
	store := func(a, stage int) api.Op { return api.Op{Op: api.LStore, A: a, Dest: 3, Stage: stage} }
	for _, c := range []struct {
		ops  []api.Op
		want int64
	}{
		{[]api.Op{store(0, 0), store(1, 0), store(2, 0)}, 7},
		{[]api.Op{store(2, 0), store(1, 0), store(0, 0)}, 5},
		{[]api.Op{store(0, 0), store(2, 0), store(1, 0)}, 6},
	} {
		k := api.Kernel{Pace: 1, Stages: 1, Ops: c.ops}
		expectRun(t, "three stores", simple(4), k, []int64{5, 6, 7, 8}, [][]int64{{0}}, 1, []int64{5, 6, 7, c.want}, [][]int64{{c.want}})
	}
}

// Not the turn that an Op is done for but its place among the Ops is the order: of the pace 1, loaded in the pace 2.
func TestRunStoresOfTwoTurnsInOrder(t *testing.T) {
	early, late := api.Op{Op: api.LStore, A: 10, Dest: 40}, api.Op{Stage: 1, Op: api.LStore, A: 20, Dest: 40}
	load := api.Op{Stage: 2, Op: api.LLoad, Dest: 50}
	for _, c := range []struct {
		ops  []api.Op
		want int64
	}{{[]api.Op{early, late, load}, 21}, {[]api.Op{late, early, load}, 11}} {
		k := api.Kernel{Pace: 1, Stages: 3, Ops: c.ops}
		regs, _, err := Run(simple(64), k, ramp(64), [][]int64{{0}}, 2)
		if err != api.OK || regs[52] != c.want {
			t.Errorf("%v: loaded %d, %d, want %d", c.ops, regs[52], err, c.want)
		}
	}
}

// ramp has its own number in each register.
func ramp(n int) []int64 {
	regs := make([]int64, n)
	for i := range regs {
		regs[i] = int64(i)
	}
	return regs
}

func TestRunIndexOfTheTurn(t *testing.T) {
	// The turn, not the pace, is what an index is made of; the array's own Log counts. In the pace 3, of the turn 0, A is the register 3.
	k := api.Kernel{Pace: 1, Stages: 4, Ops: []api.Op{{Stage: 3, Op: api.LStore, Array: 1, Step: -1, Plus: -1}}}
	memory := [][]int64{{50}, {51, 52, 53, 54}, {55, 56}}
	want := [][]int64{{50}, {51, 5, 4, 3}, {55, 56}}
	expectRun(t, "stores", simple(16), k, ramp(16), memory, 3, ramp(16), want)
	k.Ops[0] = api.Op{Stage: 3, Op: api.LLoad, Array: 1, Step: 1, Plus: 64}
	regs := ramp(16)
	copy(regs[3:], []int64{51, 52, 53, 54, 51})
	expectRun(t, "loads", simple(16), k, ramp(16), memory, 5, regs, memory)
}

// Of results due at once the one whose Op was done later is the last, however the Ops stand.
func TestRunResultsDueAtOnce(t *testing.T) {
	m := simple(3)
	m.Wait = [3]int{1, 3, 2}
	mul := api.Op{Slot: 0, Op: api.LOp + api.OpMul, A: 1, B: 1}
	load := api.Op{Slot: 1, Op: api.LLoad}
	plain := api.Op{Slot: 2, Op: api.LConst, N: 3}
	for _, c := range []struct {
		ops  []api.Op
		want int64
	}{
		{[]api.Op{mul, load, plain}, 3},
		{[]api.Op{plain, load, mul}, 3},
		{[]api.Op{load, plain, mul}, 3},
		{[]api.Op{mul, load}, 8},
		{[]api.Op{load, mul}, 8},
		{[]api.Op{plain, mul}, 3},
	} {
		// Both within the pace, and behind the last one.
		for _, pace := range []int{3, 4, 5} {
			k := api.Kernel{Pace: pace, Stages: 1, Ops: c.ops}
			expectRun(t, "at once", m, k, []int64{0, 5, 0}, [][]int64{{8}}, 1, []int64{c.want, 5, 0}, [][]int64{{8}})
		}
	}
	for _, ns := range [][]int64{{1, 2}, {2, 1}, {3, 1, 2}, {4, 3, 2, 1}} {
		k := api.Kernel{Pace: 1, Stages: 1}
		for _, n := range ns {
			k.Ops = append(k.Ops, api.Op{Op: api.LConst, N: n})
		}
		expectRun(t, "of one cycle", simple(1), k, []int64{0}, nil, 1, []int64{ns[len(ns)-1]}, nil)
	}
}

// Of one cycle, with classes that wait alike, the later Op is the last one.
func TestRunResultsOfOneCycle(t *testing.T) {
	m := simple(3)
	m.Wait = [3]int{2, 2, 2}
	ops := []api.Op{{Op: api.LConst, N: 3}, {Op: api.LOp + api.OpMul, A: 1, B: 1}, {Op: api.LLoad}}
	came := []int64{3, 25, 8}
	for first := range 3 {
		for second := range 3 {
			k := api.Kernel{Pace: 1, Stages: 1, Ops: []api.Op{ops[first], ops[second]}}
			expectRun(t, "one cycle", m, k, []int64{0, 5, 0}, [][]int64{{8}}, 1, []int64{came[second], 5, 0}, [][]int64{{8}})
		}
	}
}

// A result that is due later is the last one, even if its Op was done earlier: within the paces, and of those that are left behind the last one.
func TestRunResultsDueLater(t *testing.T) {
	for _, pace := range []int{2, 3, 4, 5, 6, 7, 9} {
		m := simple(3)
		m.Wait = [3]int{1, 6, 4}
		k := api.Kernel{Pace: pace, Stages: 1, Ops: []api.Op{
			{Op: api.LOp + api.OpMul, A: 1, B: 1},
			{Op: api.LLoad},
			{Slot: 1, Op: api.LConst, N: 3},
		}}
		expectRun(t, "mul", m, k, []int64{0, 5, 0}, [][]int64{{8}}, 1, []int64{25, 5, 0}, [][]int64{{8}})
		k.Ops = k.Ops[1:]
		expectRun(t, "load", m, k, []int64{0, 5, 0}, [][]int64{{8}}, 1, []int64{8, 5, 0}, [][]int64{{8}})
		m.Wait[api.ClassMemory] = 2
		expectRun(t, "at once", m, k, []int64{0, 5, 0}, [][]int64{{8}}, 1, []int64{3, 5, 0}, [][]int64{{8}})
	}
}

// All that is left is told, also what is due MaxWait cycles behind the very last Op.
func TestRunResultsLeft(t *testing.T) {
	for turns := 1; turns <= 64; turns++ {
		for wait := 1; wait <= api.MaxWait; wait++ {
			m := simple(128)
			m.Wait[api.ClassMul] = wait
			k := api.Kernel{Pace: 1, Stages: 1, Ops: []api.Op{{Op: api.LOp + api.OpMul, Dest: 64}}}
			want := ramp(128)
			for turn := range turns {
				want[64+turn] = int64(turn * turn)
			}
			expectRun(t, "left", m, k, ramp(128), nil, turns, want, nil)
		}
	}
}

// By hand: a running sum, whose loads and adds are of different turns in one pace.
func TestRunByHand(t *testing.T) {
	m := api.Target{Units: [3]int{1, 1, 1}, Wait: [3]int{1, 1, 2}, Regs: 5}
	// The load of the turn i is in the register i; the add, two paces on, reads it as -2 and what the add ahead left, as one less than its own Dest.
	k := api.Kernel{Pace: 1, Stages: 3, Ops: []api.Op{
		{Stage: 2, Op: api.LOp + api.OpAdd, A: 3, B: 0, Dest: 1},
		{Op: api.LLoad, Step: 1},
	}}
	// In the pace c the add's Dest is c+1, so that of the turn 0 is the register 3; ahead of it 100 is in the register 2.
	regs := []int64{0, 0, 100, 0, 0}
	words := [][]int64{{1, 2, 4, 8}}
	expectRun(t, "one turn", m, k, regs, words, 1, []int64{1, 0, 100, 101, 0}, words)
	// The load of the turn 1 is done in the pace 1 and goes to the register 1.
	expectRun(t, "two turns", m, k, regs, words, 2, []int64{1, 2, 100, 101, 103}, words)
	// The load of the turn 2 is done in the pace 2, and is due in the pace 4, when the add of the turn 2 reads it. The add of the turn 2 goes to the register 0.
	expectRun(t, "three turns", m, k, regs, words, 3, []int64{107, 2, 4, 101, 103}, words)
	// The load of the turn 3 overwrites the sum in the register 3 in the pace 5; the sum goes to the register 1.
	expectRun(t, "four turns", m, k, regs, words, 4, []int64{107, 115, 4, 8, 103}, words)
}

func TestRunLeavesItsArguments(t *testing.T) {
	for _, turns := range []int{-1, 0, 1, 9, 200} {
		k, regs, words := aKernel(), someRegs(), someWords()
		Run(aTarget(), k, regs, words, turns)
		if !reflect.DeepEqual(k, aKernel()) || !slices.Equal(regs, someRegs()) || !reflect.DeepEqual(words, someWords()) {
			t.Errorf("changed by %d turns: %v %v %v", turns, k, regs, words)
		}
	}
}

// behind lays list at the beginning of a longer one, so that more stands behind its length.
func behind[T any](list []T, more ...T) []T {
	return slices.Concat(list, more)[:len(list)]
}

// past is what stands behind a list's length.
func past[T any](list []T) []T { return list[len(list):cap(list)] }

func TestRunReadsAndWritesNothingBehindALength(t *testing.T) {
	k, regs, words := aKernel(), someRegs(), someWords()
	wantRegs, wantWords, _ := Run(aTarget(), k, regs, words, 9)
	k.Ops = behind(k.Ops, api.Op{Op: api.LTurn})
	regs = behind(regs, 77, 78, 79, 80)
	words = behind(words, []int64{8})
	for i := range words {
		words[i] = behind(words[i], 77, 78, 79, 80)
	}
	expectRun(t, "more behind the lengths", aTarget(), k, regs, words, 9, wantRegs, wantWords)
	for _, list := range append(slices.Clone(words), regs) {
		if !slices.Equal(past(list)[:4], []int64{77, 78, 79, 80}) {
			t.Errorf("written behind the length: %v", past(list))
		}
	}
}

// fill overwrites a list to the end of what it may grow to.
func fill(list []int64) {
	for i := range list[:cap(list)] {
		list[:cap(list)][i] = 99
	}
}

func TestRunAnswersNewMemory(t *testing.T) {
	for _, turns := range []int{0, 1, 7} {
		regs, words := someRegs(), someWords()
		firstRegs, firstWords, _ := Run(aTarget(), aKernel(), regs, words, turns)
		againRegs, againWords, _ := Run(aTarget(), aKernel(), regs, words, turns)
		lists := append(slices.Clone(againWords), againRegs)
		for i, list := range lists {
			kept := [][]int64{}
			for _, other := range lists {
				kept = append(kept, slices.Clone(other))
			}
			fill(list)
			for j, other := range lists {
				if i != j && !slices.Equal(other, kept[j]) {
					t.Errorf("lists %d and %d share memory", i, j)
				}
			}
		}
		if !slices.Equal(regs, someRegs()) || !reflect.DeepEqual(words, someWords()) {
			t.Errorf("what was handed in is shared: %v %v", regs, words)
		}
		expectRun(t, "once more", aTarget(), aKernel(), regs, words, turns, firstRegs, firstWords)
	}
}

// Arrays that are handed in as one and the same list are still two arrays; so are the registers.
func TestRunListsHandedInTogether(t *testing.T) {
	list := []int64{3, 4}
	k := api.Kernel{Pace: 1, Stages: 1, Ops: []api.Op{{Op: api.LStore, A: 1, Dest: 0}}}
	expectRun(t, "one list", simple(2), k, list, [][]int64{list, list}, 1, []int64{4, 4}, [][]int64{{4, 4}, {3, 4}})
}

// told is another way to say what a kernel does: each number is asked for backwards, from the cycle that it is wanted in.
type told struct {
	m     api.Target
	k     api.Kernel
	regs  []int64
	words [][]int64
	turns int
	known map[[2]int]int64
}

// cycle is the one in which an Op is done for a turn.
func (o told) cycle(at, turn int) int {
	op := o.k.Ops[at]
	return (turn+op.Stage)*o.k.Pace + op.Slot
}

func (o told) ready(at, turn int) int {
	class := 0
	switch o.k.Ops[at].Op {
	case api.LLoad, api.LStore:
		class = 2
	case api.LOp + api.OpMul:
		class = 1
	}
	return o.cycle(at, turn) + o.m.Wait[class]
}

func (o told) register(r, at, turn int) int {
	return (r + turn + o.k.Ops[at].Stage) % o.m.Regs
}

// reg is what is in a register behind the landing of a cycle: of all results for it the last, by when it is due, when its Op was done, and where that stands.
func (o told) reg(r, cycle int) int64 {
	found, best := [2]int{-1, -1}, [3]int{}
	for at, op := range o.k.Ops {
		for turn := range o.turns {
			if o.register(op.Dest, at, turn) != r || o.ready(at, turn) > cycle {
				continue
			}
			key := [3]int{o.ready(at, turn), o.cycle(at, turn), at}
			if found[0] < 0 || slices.Compare(key[:], best[:]) > 0 {
				found, best = [2]int{at, turn}, key
			}
		}
	}
	if found[0] < 0 {
		return o.regs[r]
	}
	return o.came(found[0], found[1])
}

// word is what a word is ahead of a cycle.
func (o told) word(array, i, cycle int) int64 {
	found, best := [2]int{-1, -1}, [2]int{}
	for at, op := range o.k.Ops {
		if op.Op != api.LStore || op.Array != array {
			continue
		}
		for turn := range o.turns {
			key := [2]int{o.cycle(at, turn), at}
			if o.index(op, turn) == i && key[0] < cycle && (found[0] < 0 || slices.Compare(key[:], best[:]) > 0) {
				found, best = [2]int{at, turn}, key
			}
		}
	}
	if found[0] < 0 {
		return o.words[array][i]
	}
	return o.came(found[0], found[1])
}

func (o told) index(op api.Op, turn int) int {
	size := len(o.words[op.Array])
	return ((op.Step*turn+op.Plus)%size + size) % size
}

func (o told) came(at, turn int) int64 {
	key := [2]int{at, turn}
	if n, ok := o.known[key]; ok {
		return n
	}
	n := o.comesTo(at, turn)
	o.known[key] = n
	return n
}

func (o told) comesTo(at, turn int) int64 {
	op, cycle := o.k.Ops[at], o.cycle(at, turn)
	switch op.Op {
	case api.LConst:
		return op.N
	case api.LTurn:
		return int64(turn)
	case api.LLoad:
		return o.word(op.Array, o.index(op, turn), cycle)
	}
	a := o.reg(o.register(op.A, at, turn), cycle)
	if op.Op == api.LStore {
		return a
	}
	b := o.reg(o.register(op.B, at, turn), cycle)
	truth := func(is bool) int64 {
		if is {
			return 1
		}
		return 0
	}
	switch op.Op - api.LOp {
	case api.OpAdd:
		return a + b
	case api.OpSub:
		return a - b
	case api.OpMul:
		return a * b
	case api.OpAnd:
		return a & b
	case api.OpOr:
		return a | b
	case api.OpXor:
		return a ^ b
	case api.OpLess:
		return truth(a < b)
	}
	return truth(a == b)
}

func (o told) result() ([]int64, [][]int64) {
	regs, words := slices.Clone(o.regs), [][]int64{}
	for r := range regs {
		regs[r] = o.reg(r, math.MaxInt)
	}
	for array, list := range o.words {
		words = append(words, slices.Clone(list))
		for i := range list {
			words[array][i] = o.word(array, i, math.MaxInt)
		}
	}
	return regs, words
}

func anyWords(g *rand.Rand, n int) []int64 {
	words := []int64{}
	for range n {
		words = append(words, int64(g.Uint64())>>g.Intn(64))
	}
	return words
}

func anyTarget(g *rand.Rand) api.Target {
	m := api.Target{Regs: 1 + g.Intn([]int{3, 10, 40, api.MaxRegs}[g.Intn(4)])}
	for class := range 3 {
		m.Units[class], m.Wait[class] = 1+g.Intn(api.MaxUnits), 1+g.Intn(api.MaxWait)
	}
	return m
}

func anyOp(g *rand.Rand, m api.Target, k api.Kernel, arrays int) api.Op {
	kinds := []int{api.LConst, api.LTurn}
	for op := api.OpAdd; op <= api.OpSame; op++ {
		kinds = append(kinds, api.LOp+op)
	}
	if arrays > 0 {
		kinds = append(kinds, api.LLoad, api.LLoad, api.LLoad, api.LStore, api.LStore, api.LStore)
	}
	op := api.Op{Slot: g.Intn(k.Pace), Stage: g.Intn(k.Stages), Op: kinds[g.Intn(len(kinds))], Dest: g.Intn(m.Regs)}
	n, word, a, b := names(op.Op)
	if n {
		op.N = anyWords(g, 1)[0]
	}
	if word {
		op.Array, op.Step, op.Plus = g.Intn(arrays), g.Intn(129)-64, g.Intn(129)-64
	}
	if a {
		op.A = g.Intn(m.Regs)
	}
	if b {
		op.B = g.Intn(m.Regs)
	}
	return op
}

// anyKernel grows a kernel by Ops that it may have.
func anyKernel(g *rand.Rand, m api.Target, logs []int) api.Kernel {
	k := api.Kernel{Pace: 1 + g.Intn([]int{1, 3, 8}[g.Intn(3)]), Stages: 1 + g.Intn([]int{1, 3, 20}[g.Intn(3)])}
	for range 1 + g.Intn(api.MaxBody) {
		more := k
		more.Ops = append(slices.Clone(k.Ops), anyOp(g, m, k, len(logs)))
		if May(m, more, logs) {
			k = more
		}
	}
	return k
}

func TestRunAsToldBackwards(t *testing.T) {
	for seed := range int64(1500) {
		g := rand.New(rand.NewSource(seed))
		m, logs, words := anyTarget(g), []int{}, [][]int64{}
		for range g.Intn(api.MaxArrays + 1) {
			logs = append(logs, g.Intn(api.MaxLog+1))
			words = append(words, anyWords(g, 1<<logs[len(logs)-1]))
		}
		k, regs := anyKernel(g, m, logs), anyWords(g, m.Regs)
		turns := []int{0, 1, 2, 3, 4, 5, g.Intn(20), g.Intn(60)}[g.Intn(8)]
		o := told{m, k, regs, words, turns, map[[2]int]int64{}}
		wantRegs, wantWords := o.result()
		expectRun(t, "any kernel", m, k, regs, words, turns, wantRegs, wantWords)
	}
}
