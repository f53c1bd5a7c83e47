package check

import (
	"fmt"
	"math"
	"reflect"
	"slices"
	"testing"

	"roundelay/api"
	"roundelay/emit"
)

// wild are ints that no limit takes in.
var wild = []int{math.MinInt, math.MinInt + 1, math.MinInt32, -256, 1<<16 + 1, math.MaxInt32, 1<<32 + 1, math.MaxInt - 1, math.MaxInt}

func ref(at, back int) api.Ref { return api.Ref{At: at, Back: back} }

func turn() api.Stmt { return api.Stmt{Op: api.LTurn} }

func add(a, b api.Ref) api.Stmt { return api.Stmt{Op: api.LOp + api.OpAdd, A: a, B: b} }

func plan(pace int, times ...int) api.Plan { return api.Plan{Pace: pace, Times: times} }

// wide has units enough for all that is asked for in one cycle, and waits of 1.
func wide(regs int) api.Target {
	return api.Target{Units: [3]int{4, 4, 4}, Wait: [3]int{1, 1, 1}, Regs: regs}
}

// input is all that Leave is given, and so all that the others are.
type input struct {
	l      api.Loop
	m      api.Target
	k      api.Kernel
	order  []int
	before [][]int64
	regs   []int64
	turns  int
}

// sample has a statement of each kind, and Ops in another order than the statements.
func sample() input {
	i := input{
		l: api.Loop{
			Logs: []int{0, 3},
			Body: []api.Stmt{
				{Op: api.LConst, N: -7},
				{Op: api.LTurn},
				{Op: api.LLoad, Array: 1, Step: 2, Plus: -1},
				{Op: api.LOp + api.OpMul, A: ref(2, 0), B: ref(4, 1)},
				{Op: api.LStore, A: ref(3, 0), Array: 1, Step: -1, Plus: 5},
				{Op: api.LOp + api.OpLess, A: ref(5, 3), B: ref(0, 0)},
			},
			Outs: []int{1, 5},
		},
		m: api.Target{Units: [3]int{4, 4, 4}, Wait: [3]int{2, 5, 3}, Regs: 30},
		// The times are 0, 2, 4, 7, 12 and 15, the places 6, 2, 13, 22, 29 + 1 and 18 + 1.
		k: api.Kernel{Pace: 9, Stages: 2, Ops: []api.Op{
			{Slot: 3, Stage: 1, Op: api.LStore, Dest: 29, A: 21, Array: 1, Step: -1, Plus: 5},
			{Slot: 0, Stage: 0, Op: api.LConst, Dest: 6, N: -7},
			{Slot: 7, Stage: 0, Op: api.LOp + api.OpMul, Dest: 22, A: 13, B: 29},
			{Slot: 6, Stage: 1, Op: api.LOp + api.OpLess, Dest: 18, A: 15, B: 5},
			{Slot: 4, Stage: 0, Op: api.LLoad, Dest: 13, Array: 1, Step: 2, Plus: -1},
			{Slot: 2, Stage: 0, Op: api.LTurn, Dest: 2},
		}},
		order:  []int{1, 5, 4, 2, 0, 3},
		before: [][]int64{{1, 2, 3}, {4, 5, 6}, {7, 8, 9}, {10, 11, 12}, {13, 14, 15}, {16, 17, 18}},
		turns:  12,
	}
	for r := range i.m.Regs {
		i.regs = append(i.regs, int64(1000+r))
	}
	return i
}

func (i input) takes() bool { return Takes(i.l, i.m, i.k, i.order) }

func (i input) enter() ([]int64, api.Errno) { return Enter(i.l, i.m, i.k, i.order, i.before) }

func (i input) leave() ([]int64, api.Errno) {
	return Leave(i.l, i.m, i.k, i.order, i.before, i.regs, i.turns)
}

// laid is a loop with the kernel of a plan, whose Ops stand as the statements do.
func laid(t *testing.T, l api.Loop, m api.Target, p api.Plan, dests ...int) input {
	t.Helper()
	k, code := emit.Emit(l, m, p, dests)
	if code != api.OK {
		t.Fatalf("no kernel: code %d of %+v, %+v, %+v, %v", code, l, m, p, dests)
	}
	i := input{l: l, m: m, k: k, regs: make([]int64, m.Regs)}
	for at := range l.Body {
		i.order = append(i.order, at)
		i.before = append(i.before, []int64{int64(100*at + 1), int64(100*at + 2), int64(100*at + 3)})
	}
	return i
}

func expectTaken(t *testing.T, name string, i input, want bool) {
	t.Helper()
	if got := i.takes(); got != want {
		t.Errorf("%s: %v, want %v: %+v", name, got, want, i)
	}
}

func expectNumbers(t *testing.T, name string, got []int64, code api.Errno, want []int64) {
	t.Helper()
	if code != api.OK || !slices.Equal(got, want) {
		t.Errorf("%s: %v, code %d, want %v", name, got, code, want)
	}
}

// expectNothing is what goes with each code but OK.
func expectNothing(t *testing.T, name string, got []int64, code, want api.Errno) {
	t.Helper()
	if code != want || len(got) != 0 {
		t.Errorf("%s: %v, code %d, want nothing and %d", name, got, code, want)
	}
}

// expectRefused asks all three: what is not taken is entered and left by none, whatever the turns are.
func expectRefused(t *testing.T, name string, i input) {
	t.Helper()
	expectTaken(t, name, i, false)
	got, code := i.enter()
	expectNothing(t, name+", entered", got, code, api.ErrForm)
	for _, turns := range []int{0, 1, 200, -1, 201} {
		i.turns = turns
		got, code = i.leave()
		expectNothing(t, name+", left", got, code, api.ErrForm)
	}
}

func TestLimits(t *testing.T) {
	if api.MaxBody != 16 || api.MaxBack != 3 || api.MaxWait != 6 || api.MaxRegs != 128 || api.MaxPace != 200 || api.MaxTime != 1000 || api.MaxTurns != 200 {
		t.Error("the limits are others than those that these tests were written for")
	}
}

func TestSampleIsTaken(t *testing.T) {
	i := sample()
	expectTaken(t, "the sample", i, true)
	// 29 + 1 less 1 of the store; 18 + 1 less 1, 2, 3 of the last one.
	want := make([]int64, 30)
	want[29], want[18], want[17], want[16] = 13, 16, 17, 18
	got, code := i.enter()
	expectNumbers(t, "the sample, entered", got, code, want)
	// 2 and 12 less 1; 18 + 1 and 12 less 1, less 30.
	got, code = i.leave()
	expectNumbers(t, "the sample, left", got, code, []int64{1013, 1000})
	for turns, want := range map[int][]int64{0: {4, 16}, 1: {1002, 1019}, 2: {1003, 1020}, 11: {1012, 1029}, 28: {1029, 1016}, 29: {1000, 1017}, 31: {1002, 1019}, 200: {1021, 1008}} {
		i.turns = turns
		got, code = i.leave()
		expectNumbers(t, fmt.Sprint("the sample, left behind ", turns), got, code, want)
	}
}

func TestLeaveOfNoOuts(t *testing.T) {
	i := sample()
	i.l.Outs = nil
	for _, i.turns = range []int{0, 1, 200} {
		got, code := i.leave()
		expectNumbers(t, "no outs", got, code, nil)
	}
}

func TestLeaveRefusesTurns(t *testing.T) {
	for _, turns := range append([]int{-1, 201, -200, 1000}, wild...) {
		i := sample()
		i.turns = turns
		got, code := i.leave()
		expectNothing(t, fmt.Sprint(turns, " turns"), got, code, api.ErrRange)
	}
}

func TestLeaveRefusesRegisters(t *testing.T) {
	for _, n := range []int{0, 1, 29, 31, 128, 1 << 20} {
		i := sample()
		i.regs = make([]int64, n)
		for _, i.turns = range []int{0, 1, 200, -1, 201} {
			got, code := i.leave()
			expectNothing(t, fmt.Sprint(n, " registers"), got, code, api.ErrForm)
		}
	}
	i := sample()
	i.regs = nil
	got, code := i.leave()
	expectNothing(t, "no registers at all", got, code, api.ErrForm)
}

func TestEnterAndLeaveRefuseBefore(t *testing.T) {
	spoil := map[string]func(*input){
		"nothing":             func(i *input) { i.before = nil },
		"a list too few":      func(i *input) { i.before = i.before[:5] },
		"a list too many":     func(i *input) { i.before = append(i.before, []int64{1, 2, 3}) },
		"very many lists":     func(i *input) { i.before = make([][]int64, 1<<20) },
		"a list of nothing":   func(i *input) { i.before[0] = nil },
		"a number too few":    func(i *input) { i.before[5] = i.before[5][:2] },
		"a number too many":   func(i *input) { i.before[5] = append(i.before[5], 19) },
		"one that isn't read": func(i *input) { i.before[2] = []int64{7} },
	}
	for name, change := range spoil {
		i := sample()
		change(&i)
		expectTaken(t, name, i, true)
		got, code := i.enter()
		expectNothing(t, name+", entered", got, code, api.ErrForm)
		for _, i.turns = range []int{0, 1, 200, -1, 201} {
			got, code = i.leave()
			expectNothing(t, name+", left", got, code, api.ErrForm)
		}
	}
}

// J2, 1: all may be.
func TestRefusesWhatMayNotBe(t *testing.T) {
	spoil := map[string]func(*input){
		"nothing at all":             func(i *input) { *i = input{} },
		"no loop":                    func(i *input) { i.l = api.Loop{} },
		"a log beyond":               func(i *input) { i.l.Logs[0] = 6 },
		"an array too few":           func(i *input) { i.l.Logs = i.l.Logs[:1] },
		"too many arrays":            func(i *input) { i.l.Logs = []int{0, 3, 0, 0} },
		"outs not rising":            func(i *input) { i.l.Outs = []int{5, 1} },
		"outs beyond":                func(i *input) { i.l.Outs = []int{1, 6} },
		"a ref too far back":         func(i *input) { i.l.Body[5].A.Back = 4 },
		"a ref on":                   func(i *input) { i.l.Body[3].A = ref(4, 0) },
		"a ref that isn't looked at": func(i *input) { i.l.Body[1].A = ref(0, 1) },
		"no machine":                 func(i *input) { i.m = api.Target{} },
		"no units":                   func(i *input) { i.m.Units[0] = 0 },
		"too many units":             func(i *input) { i.m.Units[1] = 5 },
		"no wait":                    func(i *input) { i.m.Wait[2] = 0 },
		"too long a wait":            func(i *input) { i.m.Wait[2] = 7 },
		"no registers":               func(i *input) { i.m.Regs = 0 },
		"too many registers":         func(i *input) { i.m.Regs = 129 },
		"no kernel":                  func(i *input) { i.k = api.Kernel{} },
		"no pace":                    func(i *input) { i.k.Pace = 0 },
		"a pace beyond":              func(i *input) { i.k.Pace = 201 },
		"no stages":                  func(i *input) { i.k.Stages = 0 },
		"too few stages":             func(i *input) { i.k.Stages = 1 },
		"too many stages":            func(i *input) { i.k.Stages = 1002 },
		"a slot beyond":              func(i *input) { i.k.Ops[5].Slot = 9 },
		"a slot below":               func(i *input) { i.k.Ops[5].Slot = -1 },
		"a stage below":              func(i *input) { i.k.Ops[5].Stage = -1 },
		"a time beyond":              func(i *input) { i.k.Stages, i.k.Ops[5].Stage = 200, 111 },
		"no such dest":               func(i *input) { i.k.Ops[0].Dest = 30 },
		"a dest below":               func(i *input) { i.k.Ops[0].Dest = -1 },
		"no such A":                  func(i *input) { i.k.Ops[0].A = 51 },
		"an A that isn't looked at":  func(i *input) { i.k.Ops[1].A = 1 },
		"a B that isn't looked at":   func(i *input) { i.k.Ops[0].B = 1 },
		"too few units": func(i *input) {
			i.m.Units[0], i.k.Ops[5].Slot = 1, 0
		},
	}
	for _, n := range wild {
		spoil[fmt.Sprint("a wild pace ", n)] = func(i *input) { i.k.Pace = n }
		spoil[fmt.Sprint("wild stages ", n)] = func(i *input) { i.k.Stages = n }
		spoil[fmt.Sprint("a wild slot ", n)] = func(i *input) { i.k.Ops[3].Slot = n }
		spoil[fmt.Sprint("a wild stage ", n)] = func(i *input) { i.k.Ops[3].Stage = n }
		spoil[fmt.Sprint("a wild dest ", n)] = func(i *input) { i.k.Ops[3].Dest = n }
		spoil[fmt.Sprint("a wild A ", n)] = func(i *input) { i.k.Ops[3].A = n }
		spoil[fmt.Sprint("a wild B ", n)] = func(i *input) { i.k.Ops[3].B = n }
		spoil[fmt.Sprint("a wild op ", n)] = func(i *input) { i.l.Body[5].Op, i.k.Ops[3].Op = n, n }
		spoil[fmt.Sprint("a wild array ", n)] = func(i *input) { i.l.Body[2].Array, i.k.Ops[4].Array = n, n }
		spoil[fmt.Sprint("a wild step ", n)] = func(i *input) { i.l.Body[2].Step, i.k.Ops[4].Step = n, n }
		spoil[fmt.Sprint("a wild plus ", n)] = func(i *input) { i.l.Body[2].Plus, i.k.Ops[4].Plus = n, n }
		spoil[fmt.Sprint("a wild log ", n)] = func(i *input) { i.l.Logs[1] = n }
		spoil[fmt.Sprint("a wild at ", n)] = func(i *input) { i.l.Body[5].A.At = n }
		spoil[fmt.Sprint("a wild back ", n)] = func(i *input) { i.l.Body[5].A.Back = n }
		spoil[fmt.Sprint("a wild out ", n)] = func(i *input) { i.l.Outs[1] = n }
		spoil[fmt.Sprint("wild registers ", n)] = func(i *input) { i.m.Regs = n }
		spoil[fmt.Sprint("wild units ", n)] = func(i *input) { i.m.Units[2] = n }
		spoil[fmt.Sprint("a wild wait ", n)] = func(i *input) { i.m.Wait[1] = n }
		spoil[fmt.Sprint("a wild place in the order ", n)] = func(i *input) { i.order[3] = n }
	}
	for name, change := range spoil {
		i := sample()
		change(&i)
		expectRefused(t, name, i)
	}
}

// J2, 1: as many Ops as statements, and an order that has each of them once.
func TestRefusesOrders(t *testing.T) {
	for name, order := range map[string][]int{
		"no order":           nil,
		"too few":            {1, 5, 4, 2, 0},
		"too many":           {1, 5, 4, 2, 0, 3, 3},
		"very many":          make([]int, 1<<20),
		"one twice":          {1, 5, 4, 2, 0, 0},
		"below":              {1, 5, 4, 2, 0, -1},
		"beyond":             {1, 5, 4, 2, 0, 6},
		"another one":        {5, 1, 4, 2, 0, 3},
		"that of statements": {0, 1, 2, 3, 4, 5},
		"the other way":      {4, 0, 3, 5, 2, 1},
	} {
		i := sample()
		i.order = order
		expectRefused(t, name, i)
	}
	i := sample()
	i.k.Ops = i.k.Ops[:5]
	expectRefused(t, "an Op too few", i)
	i = sample()
	i.k.Ops = append(i.k.Ops, api.Op{Op: api.LTurn, Dest: 25})
	expectRefused(t, "an Op too many", i)
	i.order = append(i.order, 6)
	expectRefused(t, "an Op too many, in the order too", i)
	i.k.Ops = slices.Repeat(i.k.Ops, 1<<14)
	expectRefused(t, "very many Ops", i)
	i.l.Body = append(i.l.Body, turn())
	expectRefused(t, "very many Ops, more statements", i)
	// Two statements that are alike need two Ops.
	l := api.Loop{Body: []api.Stmt{turn(), turn()}}
	i = laid(t, l, wide(8), plan(2, 0, 1), 0, 4)
	for _, i.order = range [][]int{{0, 1}, {1, 0}} {
		expectTaken(t, "two that are alike", i, true)
	}
	for _, i.order = range [][]int{{0, 0}, {1, 1}} {
		expectRefused(t, "one Op of two statements", i)
	}
}

// J2, 1: an Op does what its statement does.
func TestRefusesOtherFields(t *testing.T) {
	spoil := map[string]func(*input){
		"another number":     func(i *input) { i.k.Ops[1].N = 7 },
		"a step on":          func(i *input) { i.k.Ops[4].Step = 3 },
		"a plus on":          func(i *input) { i.k.Ops[4].Plus = 0 },
		"another array":      func(i *input) { i.k.Ops[4].Array = 0 },
		"a store's step":     func(i *input) { i.k.Ops[0].Step = 1 },
		"a store's plus":     func(i *input) { i.k.Ops[0].Plus = -5 },
		"a store's array":    func(i *input) { i.k.Ops[0].Array = 0 },
		"another operation":  func(i *input) { i.k.Ops[3].Op = api.LOp + api.OpAdd },
		"the turn for it":    func(i *input) { i.k.Ops[1] = api.Op{Op: api.LTurn, Dest: 6} },
		"a number for it":    func(i *input) { i.k.Ops[5].Op, i.k.Ops[5].N = api.LConst, 7 },
		"a load of a store":  func(i *input) { i.k.Ops[0].Op, i.k.Ops[0].A = api.LLoad, 0 },
		"a loop's number":    func(i *input) { i.l.Body[0].N = math.MaxInt64 },
		"a loop's operation": func(i *input) { i.l.Body[3].Op = api.LOp + api.OpSub },
		"a loop's array":     func(i *input) { i.l.Body[4].Array = 0 },
	}
	for name, change := range spoil {
		i := sample()
		change(&i)
		expectRefused(t, name, i)
	}
}

// J2, 2: with registers to spare, only edges are in the way of a time.
func TestRefusesBrokenEdges(t *testing.T) {
	for wait := 1; wait <= api.MaxWait; wait++ {
		for pace := 1; pace <= 12; pace++ {
			for back := range api.MaxBack + 1 {
				for late := -20; late <= 20; late++ {
					m := wide(128)
					m.Wait[api.ClassMul] = wait
					from, to := 40, 40+late
					// The plan of the kernel is made by hand, since emit makes none that is not legal.
					a := api.Op{Op: api.LOp + api.OpMul, Slot: from % pace, Stage: from / pace, Dest: 70, A: 69, B: 69}
					b := api.Op{Op: api.LOp + api.OpSub, Slot: to % pace, Stage: to / pace, Dest: 3}
					b.A = (70 + a.Stage - back - b.Stage + 256) % 128
					b.B = b.A
					i := input{
						l:     api.Loop{Body: []api.Stmt{{Op: a.Op, A: ref(0, 1), B: ref(0, 1)}, {Op: b.Op, A: ref(0, back), B: ref(0, back)}}},
						m:     m,
						k:     api.Kernel{Pace: pace, Stages: 100, Ops: []api.Op{a, b}},
						order: []int{0, 1},
					}
					expectTaken(t, fmt.Sprint("wait ", wait, " pace ", pace, " back ", back, " late ", late), i, to+back*pace >= from+wait && pace >= wait)
				}
			}
		}
	}
}

// J2, 2: words are waited for too, by those that share no register.
func TestRefusesBrokenEdgesOfWords(t *testing.T) {
	l := api.Loop{Logs: []int{5}, Body: []api.Stmt{turn(), {Op: api.LLoad, Step: 1}, {Op: api.LStore, Step: 1, Plus: 2, A: ref(0, 0)}}}
	// What is stored is loaded two turns on: the load must be behind it.
	for pace := 1; pace <= 6; pace++ {
		for load := range 40 {
			stage := (20 + 1) / pace
			i := input{l: l, m: wide(128), order: []int{2, 1, 0}, k: api.Kernel{Pace: pace, Stages: 50, Ops: []api.Op{
				{Op: api.LStore, Step: 1, Plus: 2, Slot: 21 % pace, Stage: stage, Dest: 100, A: (10 - stage + 128) % 128},
				{Op: api.LLoad, Step: 1, Slot: load % pace, Stage: load / pace, Dest: 60},
				{Op: api.LTurn, Dest: 10},
			}}}
			expectTaken(t, fmt.Sprint("pace ", pace, " load ", load), i, load+2*pace >= 21+1)
		}
	}
}

// J2, 3: each register but the one is another one.
func TestRefusesOtherNames(t *testing.T) {
	for number := range sample().k.Ops {
		for r := range 30 {
			i := sample()
			right := i.k.Ops[number]
			i.k.Ops[number].A = r
			expectTaken(t, fmt.Sprint("Op ", number, " A ", r), i, r == right.A)
			i.k.Ops[number] = right
			i.k.Ops[number].B = r
			expectTaken(t, fmt.Sprint("Op ", number, " B ", r), i, r == right.B)
		}
	}
	i := sample()
	i.k.Ops[2].A, i.k.Ops[2].B = i.k.Ops[2].B, i.k.Ops[2].A
	expectRefused(t, "A and B the other way", i)
}

// One register, in which each result comes behind the one ahead of it.
func TestTakesOneRegister(t *testing.T) {
	for pace := 1; pace <= api.MaxPace; pace++ {
		for _, time := range []int{0, 1, 7, 199, 200, 1000} {
			one := laid(t, api.Loop{Body: []api.Stmt{turn()}, Outs: []int{0}}, wide(1), plan(pace, time), 0)
			expectTaken(t, "one that is told", one, true)
			one.regs, one.turns = []int64{42}, 3
			got, code := one.leave()
			expectNumbers(t, "one that is told", got, code, []int64{42})
		}
		sum := laid(t, api.Loop{Body: []api.Stmt{add(ref(0, 1), ref(0, 1))}, Outs: []int{0}}, wide(1), plan(pace, 0), 0)
		expectTaken(t, "one that looks at itself", sum, true)
		got, code := sum.enter()
		expectNumbers(t, "one that looks at itself", got, code, []int64{1})
		two := laid(t, api.Loop{Body: []api.Stmt{add(ref(0, 2), ref(0, 2))}}, wide(1), plan(pace, 0), 0)
		expectTaken(t, "one that looks at itself, two turns back", two, false)
	}
}

// rivals are three statements, and times of theirs: the last one looks at the first one, so many turns back, and the one between goes, so many turns on, to the register that the first one's result goes to.
type rivals struct{ pace, wait, back, on, a, m, u int }

// laid has so many registers that the two meet in no other turn. What waits longer, the first one or the one between, is a load of words that nobody stores, so that nothing else is in the way.
func (r rivals) laid(t *testing.T, loadFirst bool, outs ...int) input {
	t.Helper()
	l := api.Loop{Logs: []int{0}, Body: []api.Stmt{turn(), turn(), add(ref(0, r.back), ref(0, r.back))}, Outs: outs}
	if loadFirst {
		l.Body[0].Op = api.LLoad
	} else {
		l.Body[1].Op = api.LLoad
	}
	m := wide(128)
	m.Wait[api.ClassMemory] = r.wait
	dest := func(place, time int) int { return (place - time/r.pace + 128) % 128 }
	return laid(t, l, m, plan(r.pace, r.a, r.m, r.u), dest(60, r.a), dest(60-r.on, r.m), dest(110, r.u))
}

// ready tells when what the first one comes to is there, and what the one between comes to.
func (r rivals) ready(loadFirst bool) (int, int) {
	if loadFirst {
		return r.a + r.wait, r.m + 1
	}
	return r.a + 1, r.m + r.wait
}

// J2, 4: what comes is there below ready, or above u; and above u, if what is looked at may be there from the beginning on, and it comes of a turn that is later.
func TestKeepsWhatIsRead(t *testing.T) {
	count := map[string]int{}
	try := func(r rivals, loadFirst bool) {
		ready, v := r.ready(loadFirst)
		v += r.on * r.pace
		u := r.u + r.back*r.pace
		if u < ready {
			return
		}
		want := v < ready || v > u
		if r.back > 0 && r.on > 0 {
			want = v > u
			if v < ready {
				count["there from the beginning on"]++
			}
		}
		expectTaken(t, fmt.Sprintf("%+v", r), r.laid(t, loadFirst), want)
		count[fmt.Sprint("taken ", want)]++
		if v == ready || v == u || v == ready-1 || v == u+1 {
			count["at an edge"]++
		}
	}
	for _, pace := range []int{1, 3, 7} {
		for back := range api.MaxBack + 1 {
			for on := -3; on <= 3; on++ {
				for m := range 22 {
					for n := range 64 {
						for _, wait := range []int{1, 3} {
							try(rivals{pace, wait, back, on, n % 8 * 2, m, n / 8 * 3}, n%2 == m%2)
						}
					}
				}
			}
		}
	}
	for _, name := range []string{"taken true", "taken false", "at an edge", "there from the beginning on"} {
		if count[name] < 1000 {
			t.Errorf("too little was tried: %v", count)
		}
	}
}

// J2, 4: a's own results of other turns come into its register as well, each Regs turns.
func TestKeepsWhatIsReadOfItsOwn(t *testing.T) {
	for regs := 1; regs <= 12; regs++ {
		for pace := 1; pace <= 5; pace++ {
			for back := range api.MaxBack + 1 {
				for time := 1; time < 40; time++ {
					// Of two statements the one that reads needs a register that none of the other's come to; there is one only if it is read never, and comes last.
					l := api.Loop{Body: []api.Stmt{turn(), {Op: api.LStore, A: ref(0, back)}}, Logs: []int{0}}
					m := wide(128)
					m.Regs = regs
					i := laid(t, l, m, plan(pace, 0, time), 0, 0)
					expectTaken(t, fmt.Sprint(regs, " registers, pace ", pace, " back ", back, " time ", time), i, ownKept(regs, pace, back, time))
				}
			}
		}
	}
}

// ownKept goes through all registers and turns that the results of two statements, of times 0 and time, come to, turn by turn.
func ownKept(regs, pace, back, time int) bool {
	stage, u := time/pace, time+back*pace
	for j := -300; j <= 300; j++ {
		comes := func(place, ready int, itself bool) bool {
			if (place+j+600*regs)%regs != 0 || itself && j == 0 {
				return false
			}
			v := ready + j*pace
			return v >= 1 && v <= u || back > 0 && j > 0 && v <= u
		}
		if comes(0, 1, true) || comes(stage, time+1, false) {
			return false
		}
	}
	return back <= regs
}

// J2, 5: two that look at themselves, in times so far apart that results are in nobody's way: what was there ahead of the first turn may be, though.
func TestBeginsApart(t *testing.T) {
	for _, c := range []struct {
		one, two, apart int
		want            bool
	}{
		{1, 1, 0, false}, {1, 1, -1, true}, {1, 2, -1, true}, {1, 3, -1, true},
		{2, 1, 0, false}, {2, 1, -1, false}, {2, 1, -2, true}, {2, 2, 0, false},
		{3, 3, 0, false}, {3, 1, -2, false}, {3, 2, -2, false}, {3, 3, -3, true}, {3, 1, -3, true},
		{0, 1, 0, true}, {0, 3, 0, true}, {1, 0, 0, true}, {0, 0, 0, true},
	} {
		// The first one's results are read, the last time, 3 turns on, that is in the cycle 12, ahead of the other one's.
		l := api.Loop{Body: []api.Stmt{turn(), turn()}}
		if c.one > 0 {
			l.Body[0] = add(ref(0, c.one), ref(0, c.one))
		}
		if c.two > 0 {
			l.Body[1] = add(ref(1, c.two), ref(1, c.two))
		}
		late := 40
		i := laid(t, l, wide(128), plan(4, 0, late), 50, 50+c.apart-late/4)
		expectTaken(t, fmt.Sprintf("%+v", c), i, c.want)
	}
}

// J2, 5: only the greatest Back of those that look at a statement counts, whoever looks; and Enter has each number of before at its own place.
func TestEntersAsFarAsIsLookedBack(t *testing.T) {
	for far := range api.MaxBack + 1 {
		for near := range far + 1 {
			for _, both := range [][2]int{{far, near}, {near, far}} {
				l := api.Loop{Body: []api.Stmt{turn(), add(ref(0, both[0]), ref(0, near)), add(ref(0, both[1]), ref(0, near))}}
				for dest := range 16 {
					i := laid(t, l, wide(16), plan(3, 4, 6, 7), dest, (dest+5)%16, (dest+10)%16)
					want := make([]int64, 16)
					for q := 1; q <= far; q++ {
						want[(dest+1-q+16)%16] = int64(q)
					}
					got, code := i.enter()
					expectNumbers(t, fmt.Sprint("looked back ", both, " from ", dest), got, code, want)
				}
			}
		}
	}
}

// J2, 6: what comes of the turn itself, or of one ahead, is there ahead of what is told.
func TestEndsWithWhatIsTold(t *testing.T) {
	count := [2]int{}
	for _, pace := range []int{1, 3, 7} {
		for on := -4; on <= 2; on++ {
			for a := range 30 {
				for m := range 30 {
					for _, wait := range []int{1, 3} {
						r := rivals{pace, wait, 0, on, a, m, a + 3}
						loadFirst := a%2 == m%3
						ready, v := r.ready(loadFirst)
						v += on * pace
						want := on > 0 || v < ready
						// The last one reads ahead of all that is not at once with it.
						want = want && (v < ready || v > r.u)
						expectTaken(t, fmt.Sprintf("%+v", r), r.laid(t, loadFirst, 0), want)
						if on <= 0 && v > r.u {
							expectTaken(t, fmt.Sprintf("not told: %+v", r), r.laid(t, loadFirst), true)
							expectTaken(t, fmt.Sprintf("another one is told: %+v", r), r.laid(t, loadFirst, 2), true)
							count[0]++
						}
						if on <= 0 && want {
							count[1]++
						}
					}
				}
			}
		}
	}
	if count[0] < 1000 || count[1] < 1000 {
		t.Errorf("too little was tried: %v", count)
	}
}

// behind lays list at the beginning of a longer one, so that more stands behind its length.
func behind[T any](list []T, more ...T) []T {
	return slices.Concat(list, more)[: len(list) : len(list)+len(more)]
}

func TestReadsAndWritesNothingBehindALength(t *testing.T) {
	i := sample()
	want, _ := i.enter()
	more := add(ref(0, 0), ref(6, 1))
	i.l.Logs, i.l.Body, i.l.Outs = behind(i.l.Logs, 9), behind(i.l.Body, more), behind(i.l.Outs, 2)
	i.k.Ops, i.order = behind(i.k.Ops, api.Op{Slot: 99}), behind(i.order, 99)
	i.before, i.regs = behind(i.before, []int64{99}), behind(i.regs, 99)
	for at := range i.before {
		i.before[at] = behind(i.before[at], 99)
	}
	expectTaken(t, "more behind the lengths", i, true)
	got, code := i.enter()
	expectNumbers(t, "more behind the lengths", got, code, want)
	got, code = i.leave()
	expectNumbers(t, "more behind the lengths", got, code, []int64{1013, 1000})
	if i.l.Logs[:3][2] != 9 || i.l.Body[:7][6] != more || i.l.Outs[:3][2] != 2 || i.k.Ops[:7][6].Slot != 99 || i.order[:7][6] != 99 || i.before[:7][6][0] != 99 || i.regs[:31][30] != 99 || i.before[0][:4][3] != 99 {
		t.Errorf("written behind the lengths: %+v", i)
	}
	short := i
	short.before = slices.Clone(i.before)
	short.before[5] = i.before[5][:2]
	got, code = short.enter()
	expectNothing(t, "a number too few, that stands behind the length", got, code, api.ErrForm)
	short = i
	short.regs = i.regs[:29]
	got, code = short.leave()
	expectNothing(t, "a register too few, that stands behind the length", got, code, api.ErrForm)
	short = i
	short.order = i.order[:5]
	expectRefused(t, "a place too few, that stands behind the length", short)
	short = i
	short.k.Ops = i.k.Ops[:5]
	expectRefused(t, "an Op too few, that stands behind the length", short)
}

// An answer is nobody else's: what is written into it changes neither what was handed in nor what is answered next.
func TestAnswersNewMemory(t *testing.T) {
	i := sample()
	first, _ := i.enter()
	want := slices.Clone(first)
	for range 3 {
		got, code := i.enter()
		expectNumbers(t, "once more", got, code, want)
		outs, code := i.leave()
		expectNumbers(t, "once more", outs, code, []int64{1013, 1000})
		for _, list := range [][]int64{got[:cap(got)], outs[:cap(outs)]} {
			for n := range list {
				list[n] = 99
			}
		}
	}
	if !reflect.DeepEqual(i, sample()) {
		t.Errorf("changed: %+v", i)
	}
}
