package emit

import (
	"math/rand"
	"reflect"
	"slices"
	"testing"

	"roundelay/api"
	"roundelay/kernel"
	"roundelay/sched"
	"roundelay/seq"
)

func anyRef(g *rand.Rand, at, body int) api.Ref {
	if at > 0 && g.Intn(2) == 0 {
		return ref(g.Intn(at), 0)
	}
	return ref(g.Intn(body), 1+g.Intn(api.MaxBack))
}

func anyStmt(g *rand.Rand, at, body, arrays int) api.Stmt {
	ops := []int{api.LConst, api.LTurn, api.LOp + api.OpMul, api.LOp + 1 + g.Intn(8), api.LOp + 1 + g.Intn(8)}
	s := api.Stmt{Op: ops[g.Intn(len(ops))]}
	if arrays > 0 && g.Intn(2) == 0 {
		s = api.Stmt{Op: api.LLoad + g.Intn(2), Array: g.Intn(arrays), Step: g.Intn(9) - 4, Plus: g.Intn(129) - 64}
	}
	if s.Op == api.LConst {
		s.N = int64(g.Uint64()) >> g.Intn(64)
	}
	if s.Op == api.LStore || s.Op > api.LOp {
		s.A = anyRef(g, at, body)
	}
	if s.Op > api.LOp {
		s.B = anyRef(g, at, body)
	}
	return s
}

func anyLoop(g *rand.Rand) api.Loop {
	l := api.Loop{}
	for range g.Intn(api.MaxArrays + 1) {
		l.Logs = append(l.Logs, g.Intn(api.MaxLog+1))
	}
	body := 1 + g.Intn(api.MaxBody)
	for at := range body {
		l.Body = append(l.Body, anyStmt(g, at, body, len(l.Logs)))
		l.Outs = append(l.Outs, at)
	}
	return l
}

func anyMachine(g *rand.Rand) api.Target {
	m := api.Target{Regs: 1 + g.Intn(api.MaxRegs)}
	for class := range m.Units {
		m.Units[class], m.Wait[class] = 1+g.Intn(api.MaxUnits), 1+g.Intn(api.MaxWait)
	}
	return m
}

// anyPlan is a legal one, put off by so many cycles that times may be as late as they can.
func anyPlan(t *testing.T, g *rand.Rand, l api.Loop, m api.Target) api.Plan {
	t.Helper()
	p, code := sched.Make(l, m, 1+g.Intn(1+g.Intn(30)))
	if code != api.OK {
		t.Fatalf("no plan of %+v, %+v", l, m)
	}
	late := g.Intn(1 + g.Intn(api.MaxTime+1-slices.Max(p.Times)))
	for at := range p.Times {
		p.Times[at] += late
	}
	if !sched.Legal(l, m, p) {
		t.Fatalf("no legal plan: %+v of %+v, %+v", p, l, m)
	}
	return p
}

func anyWords(g *rand.Rand, n int) []int64 {
	words := []int64{}
	for range n {
		words = append(words, int64(g.Uint64())>>g.Intn(64))
	}
	return words
}

// split goes back from a time, pace by pace, as long as it can.
func split(time, pace int) (slot, stage int) {
	for time >= pace {
		time, stage = time-pace, stage+1
	}
	return time, stage
}

// oracle finds each name by looking for it: of all names, the one that is, in the pace in which it is read, the register that dest was when it was written (E4).
func oracle(l api.Loop, m api.Target, p api.Plan, dests []int) api.Kernel {
	k := api.Kernel{Pace: p.Pace}
	name := func(r api.Ref, stage int) int {
		_, written := split(p.Times[r.At], p.Pace)
		for name := range m.Regs {
			if (name+r.Back+stage)%m.Regs == (dests[r.At]+written)%m.Regs {
				return name
			}
		}
		return -1
	}
	for at, s := range l.Body {
		slot, stage := split(p.Times[at], p.Pace)
		op := api.Op{Slot: slot, Stage: stage, Op: s.Op, Dest: dests[at], Array: s.Array, Step: s.Step, Plus: s.Plus, N: s.N}
		if s.Op == api.LStore || s.Op > api.LOp {
			op.A = name(s.A, stage)
		}
		if s.Op > api.LOp {
			op.B = name(s.B, stage)
		}
		if stage >= k.Stages {
			k.Stages = stage + 1
		}
		k.Ops = append(k.Ops, op)
	}
	return k
}

func TestEmitAsTheOracleTells(t *testing.T) {
	around, stages := 0, 0
	for seed := range int64(4000) {
		g := rand.New(rand.NewSource(seed))
		l, m := anyLoop(g), anyMachine(g)
		p := anyPlan(t, g, l, m)
		dests := []int{}
		for range l.Body {
			dests = append(dests, g.Intn(m.Regs))
		}
		want := oracle(l, m, p, dests)
		expectKernel(t, "any plan", l, m, p, dests, want)
		if !kernel.May(m, want, l.Logs) {
			t.Fatalf("a kernel that may not be: %+v of %+v, %+v, %+v", want, l, m, p)
		}
		for _, op := range want.Ops {
			if op.Stage+api.MaxBack > m.Regs {
				around++
			}
		}
		if want.Stages > 1 {
			stages++
		}
	}
	if around < 1000 || stages < 2000 {
		t.Errorf("too little was tried: %d Ops whose names go around, %d kernels of several stages", around, stages)
	}
}

// apart gives each statement registers of its own, for so many turns and those ahead of them: no result is ever overwritten by another one, so that all of them are there at the end.
type apart struct {
	dests, places []int
	turns         int
}

func layApart(p api.Plan, regs int) apart {
	room := regs / len(p.Times)
	a := apart{turns: room - api.MaxBack}
	for at, time := range p.Times {
		place := at*room + api.MaxBack
		_, stage := split(time, p.Pace)
		a.places = append(a.places, place)
		a.dests = append(a.dests, ((place-stage)%regs+regs)%regs)
	}
	return a
}

// enter has what was there ahead of the first turn.
func (a apart) enter(regs int, before [][]int64) []int64 {
	words := make([]int64, regs)
	for at, place := range a.places {
		for i, n := range before[at] {
			words[place-1-i] = n
		}
	}
	return words
}

// What the names are for: with registers that nothing else comes into, the kernel does what the loop does, in every turn, of every statement.
func TestEmitDoesWhatTheLoopDoes(t *testing.T) {
	overlap := 0
	for seed := range int64(1500) {
		g := rand.New(rand.NewSource(seed))
		l, m := anyLoop(g), anyMachine(g)
		m.Regs = api.MaxRegs
		p := anyPlan(t, g, l, m)
		s := api.State{}
		for range l.Body {
			s.Before = append(s.Before, anyWords(g, api.MaxBack))
		}
		for _, log := range l.Logs {
			s.Memory = append(s.Memory, anyWords(g, 1<<log))
		}
		a := layApart(p, m.Regs)
		k := kernelOf(t, "any plan", l, m, p, a.dests)
		regs, memory, code := kernel.Run(m, k, a.enter(m.Regs, s.Before), s.Memory, a.turns)
		if code != api.OK {
			t.Fatalf("it doesn't run: %+v of %+v, %+v", k, l, m)
		}
		for turns := 1; turns <= a.turns; turns++ {
			want, _ := seq.Run(l, s, turns)
			for at, n := range want.Outs {
				if got := regs[a.places[at]+turns-1]; got != n {
					t.Fatalf("the statement %d in the turn %d: %d, want %d: %+v of %+v, %+v", at, turns-1, got, n, k, l, m)
				}
			}
			if turns == a.turns && len(memory) > 0 && !reflect.DeepEqual(memory, want.Memory) {
				t.Fatalf("the words: %v, want %v: %+v of %+v, %+v", memory, want.Memory, k, l, m)
			}
		}
		if k.Stages > 2 {
			overlap++
		}
	}
	if overlap < 500 {
		t.Errorf("too little was tried: %d kernels of three stages or more", overlap)
	}
}
