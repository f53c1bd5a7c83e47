package check

import (
	"fmt"
	"math/rand"
	"reflect"
	"slices"
	"testing"

	"roundelay/api"
	"roundelay/dep"
	"roundelay/kernel"
	"roundelay/loop"
	"roundelay/sched"
	"roundelay/seq"
	"roundelay/target"
)

func anyRef(g *rand.Rand, at, body int) api.Ref {
	if at > 0 && g.Intn(2) == 0 {
		return ref(g.Intn(at), 0)
	}
	return ref(g.Intn(body), 1+g.Intn(api.MaxBack))
}

func anyStmt(g *rand.Rand, at, body, arrays int) api.Stmt {
	ops := []int{api.LConst, api.LTurn, api.LOp + api.OpMul, api.LOp + 1 + g.Intn(8), api.LOp + 1 + g.Intn(8)}
	s := api.Stmt{Op: ops[g.Intn(len(ops))]}
	if arrays > 0 && g.Intn(2) == 0 {
		s = api.Stmt{Op: api.LLoad + g.Intn(2), Array: g.Intn(arrays), Step: g.Intn(9) - 4, Plus: g.Intn(129) - 64}
	}
	if s.Op == api.LConst {
		s.N = int64(g.Uint64()) >> g.Intn(64)
	}
	if s.Op == api.LStore || s.Op > api.LOp {
		s.A = anyRef(g, at, body)
	}
	if s.Op > api.LOp {
		s.B = anyRef(g, at, body)
	}
	return s
}

func anyLoop(g *rand.Rand, most int) api.Loop {
	l := api.Loop{}
	for range g.Intn(api.MaxArrays + 1) {
		l.Logs = append(l.Logs, g.Intn(api.MaxLog+1))
	}
	body := 1 + g.Intn(most)
	for at := range body {
		l.Body = append(l.Body, anyStmt(g, at, body, len(l.Logs)))
		if g.Intn(3) == 0 {
			l.Outs = append(l.Outs, at)
		}
	}
	return l
}

func anyMachine(g *rand.Rand, least, most int) api.Target {
	m := api.Target{Regs: least + g.Intn(most-least+1)}
	for class := range m.Units {
		m.Units[class], m.Wait[class] = 1+g.Intn(api.MaxUnits), 1+g.Intn(api.MaxWait)
	}
	return m
}

// anyPlan is a legal one, put off by some cycles.
func anyPlan(t *testing.T, g *rand.Rand, l api.Loop, m api.Target) api.Plan {
	t.Helper()
	p, code := sched.Make(l, m, 1+g.Intn(1+g.Intn(30)))
	if code != api.OK {
		t.Fatalf("no plan of %+v, %+v", l, m)
	}
	late := g.Intn(1 + g.Intn(30))
	for at := range p.Times {
		p.Times[at] += late
	}
	if !sched.Legal(l, m, p) {
		t.Fatalf("no legal plan: %+v of %+v, %+v", p, l, m)
	}
	return p
}

func anyWords(g *rand.Rand, n int) []int64 {
	words := []int64{}
	for range n {
		words = append(words, int64(g.Uint64())>>g.Intn(64))
	}
	return words
}

// anyInput is a loop with a kernel of a legal plan, with any registers at all, and its Ops in any order.
func anyInput(t *testing.T, g *rand.Rand, l api.Loop, m api.Target) input {
	t.Helper()
	dests := []int{}
	for range l.Body {
		dests = append(dests, g.Intn(m.Regs))
	}
	return shuffled(g, laid(t, l, m, anyPlan(t, g, l, m), dests...))
}

func shuffled(g *rand.Rand, i input) input {
	ops := i.k.Ops
	i.k.Ops, i.order = make([]api.Op, len(ops)), g.Perm(len(ops))
	for at, number := range i.order {
		i.k.Ops[number] = ops[at]
	}
	return i
}

// oracle asks J2 word by word: J1 makes of each statement its numbers, and each j is tried that can matter.
type oracle struct {
	input
	time, ready, place []int
}

func newOracle(i input) oracle {
	o := oracle{input: i}
	for at, s := range i.l.Body {
		op := i.k.Ops[i.order[at]]
		o.time = append(o.time, op.Slot+i.k.Pace*op.Stage)
		o.ready = append(o.ready, o.time[at]+target.Wait(i.m, s.Op))
		o.place = append(o.place, op.Dest+op.Stage)
	}
	return o
}

// leaves is what is left, with Regs added so often that nothing is below 0.
func (o oracle) leaves(n int) int { return (n + 4000*o.m.Regs) % o.m.Regs }

func looks(s api.Stmt) []api.Ref {
	if s.Op == api.LStore {
		return []api.Ref{s.A}
	}
	if s.Op > api.LOp {
		return []api.Ref{s.A, s.B}
	}
	return nil
}

func rule1(i input) bool {
	if !loop.May(i.l) || !target.May(i.m) || !kernel.May(i.m, i.k, i.l.Logs) || len(i.k.Ops) != len(i.l.Body) {
		return false
	}
	sorted := slices.Sorted(slices.Values(i.order))
	if len(sorted) != len(i.k.Ops) {
		return false
	}
	for n, number := range sorted {
		if n != number {
			return false
		}
	}
	for at, s := range i.l.Body {
		op := i.k.Ops[i.order[at]]
		if op.Op != s.Op || op.Array != s.Array || op.Step != s.Step || op.Plus != s.Plus || op.N != s.N {
			return false
		}
	}
	return true
}

func (o oracle) rule2() bool {
	edges, _ := dep.Edges(o.l, o.m)
	for _, e := range edges {
		if o.time[e.To]+e.Back*o.k.Pace < o.time[e.From]+e.Wait {
			return false
		}
	}
	return true
}

func (o oracle) rule3() bool {
	for at, s := range o.l.Body {
		op := o.k.Ops[o.order[at]]
		for n, r := range looks(s) {
			if []int{op.A, op.B}[n] != o.leaves(o.place[r.At]-r.Back-op.Stage) {
				return false
			}
		}
	}
	return true
}

// each goes through all m and j that leave the same as a, but a itself; each j beyond is too early or too late to matter.
func (o oracle) each(a int, ask func(m, j int) bool) bool {
	far := 3000/o.k.Pace + 1
	for m := range o.l.Body {
		for j := -far; j <= far; j++ {
			if (m != a || j != 0) && o.leaves(o.place[m]+j) == o.leaves(o.place[a]) && !ask(m, j) {
				return false
			}
		}
	}
	return true
}

func (o oracle) rule4() bool {
	for at, s := range o.l.Body {
		for _, r := range looks(s) {
			u := o.time[at] + r.Back*o.k.Pace
			kept := o.each(r.At, func(m, j int) bool {
				v := o.ready[m] + j*o.k.Pace
				if r.Back > 0 && j > 0 && v <= u {
					return false
				}
				return v < o.ready[r.At] || v > u
			})
			if !kept {
				return false
			}
		}
	}
	return true
}

// begins are the registers of before, of each statement.
func (o oracle) begins() [][]int {
	far := make([]int, len(o.l.Body))
	for _, s := range o.l.Body {
		for _, r := range looks(s) {
			far[r.At] = max(far[r.At], r.Back)
		}
	}
	all := make([][]int, len(far))
	for at, back := range far {
		for q := 1; q <= back; q++ {
			all[at] = append(all[at], o.leaves(o.place[at]-q))
		}
	}
	return all
}

func (o oracle) rule5() bool {
	all := slices.Concat(o.begins()...)
	slices.Sort(all)
	return len(slices.Compact(slices.Clone(all))) == len(all)
}

func (o oracle) rule6() bool {
	for _, a := range o.l.Outs {
		last := o.each(a, func(m, j int) bool { return j > 0 || o.ready[m]+j*o.k.Pace < o.ready[a] })
		if !last {
			return false
		}
	}
	return true
}

// broken are the rules that are.
func broken(i input) []int {
	if !rule1(i) {
		return []int{1}
	}
	o := newOracle(i)
	list := []int{}
	for n, kept := range []bool{o.rule2(), o.rule3(), o.rule4(), o.rule5(), o.rule6()} {
		if !kept {
			list = append(list, n+2)
		}
	}
	return list
}

// expectAsTold holds Takes, Enter and Leave against the oracle, and tells which rules are broken.
func expectAsTold(t *testing.T, i input) []int {
	t.Helper()
	rules := broken(i)
	if len(rules) > 0 {
		expectTaken(t, fmt.Sprint("with rules broken ", rules), i, false)
		return rules
	}
	expectTaken(t, "with no rule broken", i, true)
	o := newOracle(i)
	want := make([]int64, i.m.Regs)
	for at, list := range o.begins() {
		for n, register := range list {
			want[register] = i.before[at][n]
		}
	}
	got, code := i.enter()
	expectNumbers(t, "entered", got, code, want)
	outs := []int64{}
	for _, at := range i.l.Outs {
		out := i.before[at][0]
		if i.turns > 0 {
			out = i.regs[o.leaves(o.place[at]+i.turns-1)]
		}
		outs = append(outs, out)
	}
	got, code = i.leave()
	expectNumbers(t, "left", got, code, outs)
	return nil
}

// spoil changes one number of the kernel, the order, the machine or the loop, most often so that the first rule is kept.
func spoil(g *rand.Rand, i input) input {
	i.k.Ops, i.order, i.l.Body = slices.Clone(i.k.Ops), slices.Clone(i.order), slices.Clone(i.l.Body)
	op, s := &i.k.Ops[g.Intn(len(i.k.Ops))], &i.l.Body[g.Intn(len(i.l.Body))]
	on := 1 - 2*g.Intn(2)
	numbers := []*int{&op.Slot, &op.Stage, &op.Dest, &op.A, &op.B, &s.A.Back, &s.B.Back, &s.A.At, &s.B.At, &i.k.Pace, &i.m.Regs, &i.m.Wait[g.Intn(3)], &i.m.Units[g.Intn(3)], &op.Array, &op.Step, &op.Plus, &op.Op}
	*numbers[g.Intn(len(numbers))] += on
	if g.Intn(10) == 0 {
		a, b := g.Intn(len(i.order)), g.Intn(len(i.order))
		i.order[a], i.order[b] = i.order[b], i.order[a]
	}
	i.k.Stages = max(i.k.Stages, op.Stage+1)
	i.regs = make([]int64, max(i.m.Regs, 0))
	return i
}

func TestAsTheOracleTells(t *testing.T) {
	alone, taken := [7]int{}, 0
	count := func(rules []int) {
		if len(rules) == 1 {
			alone[rules[0]]++
		}
		if len(rules) == 0 {
			taken++
		}
	}
	for seed := range int64(12000) {
		g := rand.New(rand.NewSource(seed))
		l, m := anyLoop(g, 4), anyMachine(g, 1, 24)
		i := anyInput(t, g, l, m)
		i.regs, i.turns = anyWords(g, m.Regs), g.Intn(1+g.Intn(api.MaxTurns+1))
		count(expectAsTold(t, i))
		for range 3 {
			count(expectAsTold(t, spoil(g, i)))
		}
	}
	if slices.Min(alone[1:]) < 100 || taken < 1000 {
		t.Errorf("too little was tried: %d taken, and refused for one rule alone: %v", taken, alone)
	}
}

// Many statements, in as many registers as there are, each with its own.
func TestAsTheOracleTellsOfManyStatements(t *testing.T) {
	taken := 0
	for seed := range int64(600) {
		g := rand.New(rand.NewSource(seed))
		i := apart(t, g)
		if len(expectAsTold(t, i)) == 0 {
			taken++
		}
		expectAsTold(t, spoil(g, i))
	}
	if taken < 100 {
		t.Errorf("too little was tried: %d taken", taken)
	}
}

// apart is a loop of any length, and a kernel whose results go to places that are as far apart as they can be.
func apart(t *testing.T, g *rand.Rand) input {
	t.Helper()
	l, m := anyLoop(g, api.MaxBody), anyMachine(g, api.MaxRegs/2, api.MaxRegs)
	p := anyPlan(t, g, l, m)
	dests := []int{}
	for at, time := range p.Times {
		place := at * (m.Regs / len(l.Body))
		dests = append(dests, ((place-time/p.Pace)%m.Regs+m.Regs)%m.Regs)
	}
	return shuffled(g, laid(t, l, m, p, dests...))
}

// J4. The turns are few, as many as there are stages, more than there are registers, and the most.
func expectTheSame(t *testing.T, g *rand.Rand, i input) {
	t.Helper()
	s := api.State{}
	for range i.l.Body {
		s.Before = append(s.Before, anyWords(g, api.MaxBack))
	}
	for _, log := range i.l.Logs {
		s.Memory = append(s.Memory, anyWords(g, 1<<log))
	}
	i.before = s.Before
	start, code := i.enter()
	if code != api.OK {
		t.Fatalf("not entered: %+v", i)
	}
	for _, turns := range []int{0, 1, 2, 3, 4, 7, min(i.k.Stages, api.MaxTurns), i.m.Regs + 1, api.MaxTurns} {
		want, _ := seq.Run(i.l, s, turns)
		regs, memory, code := kernel.Run(i.m, i.k, start, s.Memory, turns)
		if code != api.OK || len(memory) > 0 && !reflect.DeepEqual(memory, want.Memory) {
			t.Fatalf("%d turns, the words: %v, code %d, want %v: %+v", turns, memory, code, want.Memory, i)
		}
		i.regs, i.turns = regs, turns
		outs, code := i.leave()
		if code != api.OK || !slices.Equal(outs, want.Outs) {
			t.Fatalf("%d turns, the outs: %v, code %d, want %v: %+v", turns, outs, code, want.Outs, i)
		}
	}
}

func TestWhatIsTakenDoesWhatTheLoopDoes(t *testing.T) {
	taken, overlap := 0, 0
	try := func(g *rand.Rand, i input) {
		if !i.takes() {
			return
		}
		expectTheSame(t, g, i)
		taken++
		if i.k.Stages > 2 {
			overlap++
		}
	}
	for seed := range int64(6000) {
		g := rand.New(rand.NewSource(seed))
		l, m := anyLoop(g, 4), anyMachine(g, 1, 24)
		i := anyInput(t, g, l, m)
		try(g, i)
		for range 3 {
			try(g, spoil(g, i))
		}
	}
	for seed := range int64(300) {
		g := rand.New(rand.NewSource(seed))
		i := apart(t, g)
		try(g, i)
		try(g, spoil(g, i))
	}
	if taken < 1000 || overlap < 200 {
		t.Errorf("too little was tried: %d taken, %d of three stages or more", taken, overlap)
	}
}

// With registers as they come a kernel most often does something else: then it is not taken.
func TestWhatDoesSomethingElseIsNotTaken(t *testing.T) {
	other := 0
	for seed := range int64(2000) {
		g := rand.New(rand.NewSource(seed))
		l := anyLoop(g, 4)
		for at := range l.Body {
			l.Outs = append(l.Outs[:at], at)
		}
		m := anyMachine(g, 1, 16)
		p := anyPlan(t, g, l, m)
		dests := make([]int, len(l.Body))
		for at := range dests {
			dests[at] = g.Intn(m.Regs)
		}
		i := laid(t, l, m, p, dests...)
		if differs(g, i) {
			other++
			expectTaken(t, "one that does something else", i, false)
		}
	}
	if other < 500 {
		t.Errorf("too little was tried: %d that do something else", other)
	}
}

// differs lets a kernel run whether it is taken or not, from registers as J3 fills them.
func differs(g *rand.Rand, i input) bool {
	o := newOracle(i)
	s := api.State{}
	regs := make([]int64, i.m.Regs)
	for at := range i.l.Body {
		s.Before = append(s.Before, anyWords(g, api.MaxBack))
		for n, register := range o.begins()[at] {
			regs[register] = s.Before[at][n]
		}
	}
	for _, log := range i.l.Logs {
		s.Memory = append(s.Memory, anyWords(g, 1<<log))
	}
	for _, turns := range []int{1, 2, 3, 5, 9, 40} {
		want, _ := seq.Run(i.l, s, turns)
		got, memory, _ := kernel.Run(i.m, i.k, regs, s.Memory, turns)
		if len(memory) > 0 && !reflect.DeepEqual(memory, want.Memory) {
			return true
		}
		for n, at := range i.l.Outs {
			if got[o.leaves(o.place[at]+turns-1)] != want.Outs[n] {
				return true
			}
		}
	}
	return false
}
