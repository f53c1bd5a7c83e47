package regs

import (
	"math/rand"
	"reflect"
	"slices"
	"testing"

	"roundelay/api"
	"roundelay/check"
	"roundelay/emit"
	"roundelay/kernel"
	"roundelay/sched"
	"roundelay/seq"
	"roundelay/target"
)

func anyRef(g *rand.Rand, at, body int) api.Ref {
	if at > 0 && g.Intn(2) == 0 {
		return ref(g.Intn(at), 0)
	}
	return ref(g.Intn(body), 1+g.Intn(api.MaxBack))
}

func anyStmt(g *rand.Rand, at, body, arrays int) api.Stmt {
	ops := []int{api.LConst, api.LTurn, api.LOp + api.OpMul, api.LOp + 1 + g.Intn(8), api.LOp + 1 + g.Intn(8)}
	s := api.Stmt{Op: ops[g.Intn(len(ops))]}
	if arrays > 0 && g.Intn(2) == 0 {
		s = api.Stmt{Op: api.LLoad + g.Intn(2), Array: g.Intn(arrays), Step: g.Intn(9) - 4, Plus: g.Intn(129) - 64}
	}
	if s.Op == api.LConst {
		s.N = int64(g.Uint64()) >> g.Intn(64)
	}
	if s.Op == api.LStore || s.Op > api.LOp {
		s.A = anyRef(g, at, body)
	}
	if s.Op > api.LOp {
		s.B = anyRef(g, at, body)
	}
	return s
}

func anyLoop(g *rand.Rand, most int) api.Loop {
	l := api.Loop{}
	for range g.Intn(api.MaxArrays + 1) {
		l.Logs = append(l.Logs, g.Intn(api.MaxLog+1))
	}
	body := 1 + g.Intn(most)
	outs := g.Intn(4)
	for at := range body {
		l.Body = append(l.Body, anyStmt(g, at, body, len(l.Logs)))
		if g.Intn(3) < outs {
			l.Outs = append(l.Outs, at)
		}
	}
	return l
}

func anyMachine(g *rand.Rand, regs int) api.Target {
	m := api.Target{Regs: regs}
	for class := range m.Units {
		m.Units[class], m.Wait[class] = 1+g.Intn(api.MaxUnits), 1+g.Intn(api.MaxWait)
	}
	return m
}

func planOf(t *testing.T, l api.Loop, m api.Target, least int) api.Plan {
	t.Helper()
	p, code := sched.Make(l, m, least)
	if code != api.OK {
		t.Fatalf("no plan of %+v, %+v", l, m)
	}
	return p
}

// anyPlan is a legal one, with some statements put off as far as the others let them.
func anyPlan(t *testing.T, g *rand.Rand, l api.Loop, m api.Target) api.Plan {
	t.Helper()
	p := planOf(t, l, m, 1+g.Intn(1+g.Intn(30)))
	late := g.Intn(1 + g.Intn(30))
	for at := range p.Times {
		p.Times[at] += late
	}
	for range g.Intn(8) {
		at, by := g.Intn(len(p.Times)), 1+g.Intn(4*p.Pace)
		p.Times[at] += by
		if !sched.Legal(l, m, p) {
			p.Times[at] -= by
		}
	}
	return p
}

// inOnePace is a legal plan in which the last result comes just at the pace.
func inOnePace(t *testing.T, g *rand.Rand, l api.Loop, m api.Target) api.Plan {
	t.Helper()
	p := planOf(t, l, m, 1+g.Intn(1+g.Intn(100)))
	last := 0
	for at, s := range l.Body {
		last = max(last, p.Times[at]+target.Wait(m, s.Op))
	}
	// Times of one rest are the same ones then: no unit is asked for more than it was.
	p.Pace = max(p.Pace, last)
	for at := range p.Times {
		p.Times[at] += p.Pace - last
	}
	return p
}

// The edge that K1 names, of any loop: never none.
func TestMakeOfAnyLoopAtFiveTimes(t *testing.T) {
	for seed := range int64(6000) {
		g := rand.New(rand.NewSource(seed))
		l := anyLoop(g, api.MaxBody)
		m := anyMachine(g, 5*len(l.Body))
		p := inOnePace(t, g, l, m)
		expectFound(t, "five times", l, m, p)
		m.Regs += g.Intn(api.MaxRegs + 1 - m.Regs)
		expectFound(t, "more than five times", l, m, p)
		m.Regs = 5*len(l.Body) - 1 - g.Intn(len(l.Body))
		expectAnswer(t, "less than five times", l, m, p)
	}
}

// Statements one by one, as no faster plan can be hoped for.
func TestMakeOfOneByOneAtFiveTimes(t *testing.T) {
	for seed := range int64(1500) {
		g := rand.New(rand.NewSource(seed))
		l := anyLoop(g, api.MaxBody)
		m := anyMachine(g, 5*len(l.Body))
		p := api.Plan{}
		for _, s := range l.Body {
			p.Times = append(p.Times, p.Pace)
			p.Pace += target.Wait(m, s.Op)
		}
		expectFound(t, "one by one", l, m, p)
	}
}

// Any legal plan, any machine: what is found is taken, and the same ones are found again.
func TestMakeOfAnyPlan(t *testing.T) {
	found, none := 0, 0
	for seed := range int64(8000) {
		g := rand.New(rand.NewSource(seed))
		l, m := anyLoop(g, api.MaxBody), anyMachine(g, 1+g.Intn(1+g.Intn(api.MaxRegs)))
		p := anyPlan(t, g, l, m)
		if expectAnswer(t, "any plan", l, m, p) {
			found++
		} else {
			none++
		}
		first, code := Make(l, m, p)
		again, once := Make(l, m, p)
		if code != once || !slices.Equal(first, again) {
			t.Errorf("%v, code %d, and once more %v, code %d: %+v, %+v, %+v", first, code, again, once, l, m, p)
		}
	}
	if found < 2000 || none < 1000 {
		t.Errorf("too little was tried: %d found, %d not", found, none)
	}
}

// anyTaken goes through all dests from the one at that number on, till some are taken.
func anyTaken(l api.Loop, m api.Target, p api.Plan, dests []int, at int) bool {
	if at == len(dests) {
		return taken(l, m, p, dests)
	}
	for dests[at] = range m.Regs {
		if anyTaken(l, m, p, dests, at+1) {
			return true
		}
	}
	return false
}

// What K1 doesn't ask for: of short loops none are found only where there are none.
func TestMakeFindsWhatThereIs(t *testing.T) {
	found, none := 0, 0
	for seed := range int64(3000) {
		g := rand.New(rand.NewSource(seed))
		l, m := anyLoop(g, 3), anyMachine(g, 1+g.Intn(6))
		p := anyPlan(t, g, l, m)
		if expectAnswer(t, "a short loop", l, m, p) {
			found++
			continue
		}
		none++
		if dests := make([]int, len(l.Body)); anyTaken(l, m, p, dests, 0) {
			t.Errorf("none found, and there are %v: %+v, %+v, %+v", dests, l, m, p)
		}
	}
	if found < 500 || none < 500 {
		t.Errorf("too little was tried: %d found, %d not", found, none)
	}
}

// Likewise: 64 registers are enough for most plans, as sched makes them.
func TestMakeMostlyFinds(t *testing.T) {
	found, tried := 0, 1000
	for seed := range int64(tried) {
		g := rand.New(rand.NewSource(seed))
		l, m := anyLoop(g, api.MaxBody), anyMachine(g, 64)
		if expectAnswer(t, "as planned", l, m, planOf(t, l, m, 1)) {
			found++
		}
	}
	if found*100 < tried*95 {
		t.Errorf("of %d plans registers were found for %d only", tried, found)
	}
}

// That Make ends rests on this: not more is put in than that, however often it must go back.
func TestMakeEnds(t *testing.T) {
	given := 0
	for seed := range int64(200) {
		g := rand.New(rand.NewSource(seed))
		b := newBars(16, 8+g.Intn(121))
		regs := len(b[0][0])
		for range 16 * 16 * regs / 4 {
			a, m := g.Intn(16), g.Intn(16)
			if a != m {
				b.bar(a, m, g.Intn(regs))
			}
		}
		f := newFinder(b)
		ok := f.fill()
		if f.puts > 1000 {
			t.Errorf("%d put in", f.puts)
		}
		if !ok && f.puts == 1000 {
			given++
		}
	}
	if given < 50 {
		t.Errorf("too little was tried: given up %d times", given)
	}
}

func anyWords(g *rand.Rand, n int) []int64 {
	words := []int64{}
	for range n {
		words = append(words, int64(g.Uint64())>>g.Intn(64))
	}
	return words
}

// expectTheSame runs the kernel with the registers that were found, beside the loop.
func expectTheSame(t *testing.T, g *rand.Rand, l api.Loop, m api.Target, p api.Plan, dests []int) {
	t.Helper()
	k, _ := emit.Emit(l, m, p, dests)
	s, order := api.State{}, []int{}
	for at := range l.Body {
		s.Before = append(s.Before, anyWords(g, api.MaxBack))
		order = append(order, at)
	}
	for _, log := range l.Logs {
		s.Memory = append(s.Memory, anyWords(g, 1<<log))
	}
	start, code := check.Enter(l, m, k, order, s.Before)
	if code != api.OK {
		t.Fatalf("not entered: %+v, %+v, %+v, %v", l, m, p, dests)
	}
	for _, turns := range []int{0, 1, 2, 3, 7, min(k.Stages, api.MaxTurns), m.Regs + 1, api.MaxTurns} {
		want, _ := seq.Run(l, s, turns)
		regs, memory, _ := kernel.Run(m, k, start, s.Memory, turns)
		outs, _ := check.Leave(l, m, k, order, s.Before, regs, turns)
		if !slices.Equal(outs, want.Outs) || len(memory) > 0 && !reflect.DeepEqual(memory, want.Memory) {
			t.Fatalf("%d turns: %v, %v, want %v: %+v, %+v, %+v, %v", turns, outs, memory, want, l, m, p, dests)
		}
	}
}

func TestWhatIsFoundDoesWhatTheLoopDoes(t *testing.T) {
	found, overlap := 0, 0
	for seed := range int64(1500) {
		g := rand.New(rand.NewSource(seed))
		l, m := anyLoop(g, api.MaxBody), anyMachine(g, 1+g.Intn(api.MaxRegs))
		p := anyPlan(t, g, l, m)
		dests, code := Make(l, m, p)
		if code != api.OK {
			continue
		}
		expectTheSame(t, g, l, m, p, dests)
		found++
		if slices.Max(p.Times) >= 2*p.Pace {
			overlap++
		}
	}
	if found < 500 || overlap < 200 {
		t.Errorf("too little was tried: %d found, %d of three stages or more", found, overlap)
	}
}
