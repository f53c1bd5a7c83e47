package build

import (
	"math/rand"
	"reflect"
	"slices"
	"testing"

	"roundelay/api"
	"roundelay/check"
	"roundelay/kernel"
	"roundelay/regs"
	"roundelay/sched"
	"roundelay/seq"
)

func anyRef(g *rand.Rand, at, body int) api.Ref {
	if at > 0 && g.Intn(2) == 0 {
		return ref(g.Intn(at), 0)
	}
	return ref(g.Intn(body), 1+g.Intn(api.MaxBack))
}

func anyStmt(g *rand.Rand, at, body, arrays int) api.Stmt {
	ops := []int{api.LConst, api.LTurn, api.LOp + api.OpMul, api.LOp + 1 + g.Intn(8), api.LOp + 1 + g.Intn(8)}
	s := api.Stmt{Op: ops[g.Intn(len(ops))]}
	if arrays > 0 && g.Intn(2) == 0 {
		s = api.Stmt{Op: api.LLoad + g.Intn(2), Array: g.Intn(arrays), Step: g.Intn(9) - 4, Plus: g.Intn(129) - 64}
	}
	if s.Op == api.LConst {
		s.N = int64(g.Uint64()) >> g.Intn(64)
	}
	if s.Op == api.LStore || s.Op > api.LOp {
		s.A = anyRef(g, at, body)
	}
	if s.Op > api.LOp {
		s.B = anyRef(g, at, body)
	}
	return s
}

func anyLoop(g *rand.Rand, most int) api.Loop {
	l := api.Loop{}
	for range g.Intn(api.MaxArrays + 1) {
		l.Logs = append(l.Logs, g.Intn(api.MaxLog+1))
	}
	body := 1 + g.Intn(most)
	outs := g.Intn(4)
	for at := range body {
		l.Body = append(l.Body, anyStmt(g, at, body, len(l.Logs)))
		if g.Intn(3) < outs {
			l.Outs = append(l.Outs, at)
		}
	}
	return l
}

func anyMachine(g *rand.Rand, regs int) api.Target {
	m := api.Target{Regs: regs}
	for class := range m.Units {
		m.Units[class], m.Wait[class] = 1+g.Intn(api.MaxUnits), 1+g.Intn(api.MaxWait)
	}
	return m
}

func anyWords(g *rand.Rand, n int) []int64 {
	words := []int64{}
	for range n {
		words = append(words, int64(g.Uint64())>>g.Intn(64))
	}
	return words
}

func anyState(g *rand.Rand, l api.Loop) api.State {
	s := api.State{}
	for range l.Body {
		s.Before = append(s.Before, anyWords(g, api.MaxBack))
	}
	for _, log := range l.Logs {
		s.Memory = append(s.Memory, anyWords(g, 1<<log))
	}
	return s
}

// The edge that L1 names, of any loop: with five registers for each statement there is always a kernel.
func TestBuildOfAnyLoopAtFiveTimes(t *testing.T) {
	for seed := range int64(5000) {
		g := rand.New(rand.NewSource(seed))
		l := anyLoop(g, api.MaxBody)
		m := anyMachine(g, 5*len(l.Body))
		expectAnswer(t, "five times", l, m)
		m.Regs += g.Intn(api.MaxRegs + 1 - m.Regs)
		expectAnswer(t, "more than five times", l, m)
		m.Regs = 5*len(l.Body) - 1
		expectAnswer(t, "a register less than five times", l, m)
	}
}

// Any loop, any machine, and the same answer each time.
func TestBuildOfAnyLoop(t *testing.T) {
	found, none := 0, 0
	for seed := range int64(1500) {
		g := rand.New(rand.NewSource(seed))
		l, m := anyLoop(g, api.MaxBody), anyMachine(g, 1+g.Intn(1+g.Intn(api.MaxRegs)))
		k, order, ok := expectAnswer(t, "any loop", l, m)
		if !ok {
			none++
			continue
		}
		found++
		again, once, _ := Build(l, m)
		if !reflect.DeepEqual(k, again) || !slices.Equal(order, once) {
			t.Errorf("%+v, %v, and once more %+v, %v: %+v, %+v", k, order, again, once, l, m)
		}
	}
	if found < 500 || none < 100 {
		t.Errorf("too little was tried: %d found, %d not", found, none)
	}
}

// fastest goes through all paces, each by itself, and tells the first one for which a plan is made that has registers; 0, if there is none.
func fastest(t *testing.T, l api.Loop, m api.Target) int {
	t.Helper()
	for least := bounds(t, l, m); least <= waits(l, m); least++ {
		p, _ := sched.Make(l, m, least)
		if _, code := regs.Make(l, m, p); code == api.OK {
			return p.Pace
		}
	}
	return 0
}

// What L1 doesn't ask for: no plan for which there are registers is passed over for a slower one.
func TestBuildPassesNoPlanOver(t *testing.T) {
	none, between := 0, 0
	for seed := range int64(1000) {
		g := rand.New(rand.NewSource(seed))
		l := anyLoop(g, api.MaxBody)
		m := anyMachine(g, 1+g.Intn(2*len(l.Body)))
		k, _, _ := expectAnswer(t, "few registers", l, m)
		if want := fastest(t, l, m); k.Pace != want {
			t.Errorf("pace %d, want %d: %+v, %+v", k.Pace, want, l, m)
		}
		if k.Pace == 0 {
			none++
		}
		if k.Pace > bounds(t, l, m) && k.Pace < waits(l, m) {
			between++
		}
	}
	if none < 100 || between < 50 {
		t.Errorf("too little was tried: %d not found, %d between the bounds and all Waits", none, between)
	}
}

// Likewise: with registers enough most loops go at the bounds.
func TestBuildIsMostlyAtTheBounds(t *testing.T) {
	at, tried := 0, 1000
	for seed := range int64(tried) {
		g := rand.New(rand.NewSource(seed))
		l, m := anyLoop(g, api.MaxBody), anyMachine(g, api.MaxRegs)
		if k, _, _ := expectAnswer(t, "the most registers", l, m); k.Pace == bounds(t, l, m) {
			at++
		}
	}
	if at*100 < tried*95 {
		t.Errorf("of %d loops only %d go at the bounds", tried, at)
	}
}

// expectTheSame holds L2: the turns are few, as many as there are stages, more than there are registers, and the most.
func expectTheSame(t *testing.T, g *rand.Rand, l api.Loop, m api.Target, k api.Kernel, order []int) {
	t.Helper()
	s := anyState(g, l)
	start, code := check.Enter(l, m, k, order, s.Before)
	if code != api.OK {
		t.Fatalf("not entered: %+v, %v: %+v, %+v", k, order, l, m)
	}
	for _, turns := range []int{0, 1, 2, 3, 7, min(k.Stages, api.MaxTurns), m.Regs + 1, api.MaxTurns} {
		want, _ := seq.Run(l, s, turns)
		file, memory, code := kernel.Run(m, k, start, s.Memory, turns)
		if code != api.OK || len(memory) != len(s.Memory) || len(memory) > 0 && !reflect.DeepEqual(memory, want.Memory) {
			t.Fatalf("%d turns, the words: %v, code %d, want %v: %+v, %v: %+v, %+v", turns, memory, code, want.Memory, k, order, l, m)
		}
		outs, code := check.Leave(l, m, k, order, s.Before, file, turns)
		if code != api.OK || !slices.Equal(outs, want.Outs) {
			t.Fatalf("%d turns, the outs: %v, code %d, want %v: %+v, %v: %+v, %+v", turns, outs, code, want.Outs, k, order, l, m)
		}
	}
}

func TestWhatIsBuiltDoesWhatTheLoopDoes(t *testing.T) {
	few, overlap := 0, 0
	for seed := range int64(1500) {
		g := rand.New(rand.NewSource(seed))
		l := anyLoop(g, api.MaxBody)
		m := anyMachine(g, 1+g.Intn(5*len(l.Body)))
		if k, order, found := expectAnswer(t, "few registers", l, m); found {
			expectTheSame(t, g, l, m, k, order)
			few++
		}
		m.Regs = 5*len(l.Body) + g.Intn(api.MaxRegs+1-5*len(l.Body))
		if k, order, found := expectAnswer(t, "registers enough", l, m); found {
			expectTheSame(t, g, l, m, k, order)
			if k.Stages > 2 {
				overlap++
			}
		}
	}
	if few < 500 || overlap < 300 {
		t.Errorf("too little was tried: %d with few registers, %d of three stages or more", few, overlap)
	}
}

// The hand-made loops, at the edges of paces and registers.
func TestWhatIsBuiltAtTheEdgesDoesWhatTheLoopDoes(t *testing.T) {
	g := rand.New(rand.NewSource(1))
	loops := []api.Loop{}
	for n := 1; n <= api.MaxBody; n++ {
		loops = append(loops, round(n), chain(n), crowd(n, 1), crowd(n, 3))
	}
	for half := 1; half <= api.MaxBody/2; half++ {
		loops = append(loops, long(half))
	}
	for _, l := range loops {
		n := len(l.Body)
		for _, regs := range []int{1, n, 3 * n, 5*n - 1, 5 * n, api.MaxRegs} {
			m := alike(1+n%4, 1+n%6, regs)
			if k, order, found := expectAnswer(t, "at the edges", l, m); found {
				expectTheSame(t, g, l, m, k, order)
			}
		}
	}
}
