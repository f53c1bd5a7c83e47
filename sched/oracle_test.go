package sched

import (
	"math/rand"
	"testing"

	"roundelay/api"
	"roundelay/bound"
	"roundelay/dep"
)

func anyRef(g *rand.Rand, at, body int) api.Ref {
	if at > 0 && g.Intn(2) == 0 {
		return ref(g.Intn(at), 0)
	}
	return ref(g.Intn(body), 1+g.Intn(api.MaxBack))
}

func anyStmt(g *rand.Rand, at, body, arrays int) api.Stmt {
	ops := []int{api.LTurn, api.LOp + api.OpMul, api.LOp + api.OpSub, api.LOp + 1 + g.Intn(8)}
	s := api.Stmt{Op: ops[g.Intn(len(ops))]}
	if arrays > 0 && g.Intn(2) == 0 {
		s = api.Stmt{Op: api.LLoad + g.Intn(2), Array: g.Intn(arrays), Step: g.Intn(5) - 2, Plus: g.Intn(9) - 4}
	}
	if s.Op == api.LStore || s.Op > api.LOp {
		s.A = anyRef(g, at, body)
	}
	if s.Op > api.LOp {
		s.B = anyRef(g, at, body)
	}
	return s
}

func anyLoop(g *rand.Rand, most int) api.Loop {
	l := api.Loop{}
	for range g.Intn(api.MaxArrays + 1) {
		l.Logs = append(l.Logs, g.Intn(api.MaxLog+1))
	}
	body := 1 + g.Intn(most)
	for at := range body {
		l.Body = append(l.Body, anyStmt(g, at, body, len(l.Logs)))
	}
	return l
}

func anyMachine(g *rand.Rand, units, wait int) api.Target {
	m := api.Target{Regs: 1 + g.Intn(api.MaxRegs)}
	for class := range m.Units {
		m.Units[class], m.Wait[class] = 1+g.Intn(units), 1+g.Intn(wait)
	}
	return m
}

func edgesOf(t *testing.T, l api.Loop, m api.Target) []api.Edge {
	t.Helper()
	edges, code := dep.Edges(l, m)
	if code != api.OK {
		t.Fatalf("nothing to try: %+v %+v", l, m)
	}
	return edges
}

// class is told anew here, not by package num.
func class(op int) int {
	switch op {
	case api.LOp + api.OpMul:
		return api.ClassMul
	case api.LLoad, api.LStore:
		return api.ClassMemory
	}
	return api.ClassPlain
}

// broken tells which of H1's rules a plan breaks, of a loop and a machine that may be, as the chapter says them; none: "".
func broken(l api.Loop, m api.Target, edges []api.Edge, p api.Plan) string {
	switch {
	case p.Pace < 1 || p.Pace > 200:
		return "pace"
	case len(p.Times) != len(l.Body):
		return "how many times"
	case !timesWithin(p):
		return "times"
	case !edgesHeld(edges, p):
		return "edges"
	case !unitsHeld(l, m, p):
		return "units"
	}
	return ""
}

func timesWithin(p api.Plan) bool {
	for _, time := range p.Times {
		if time < 0 || time > 1000 {
			return false
		}
	}
	return true
}

func edgesHeld(edges []api.Edge, p api.Plan) bool {
	for _, e := range edges {
		if p.Times[e.To]+e.Back*p.Pace < p.Times[e.From]+e.Wait {
			return false
		}
	}
	return true
}

// unitsHeld counts, for each statement, all of its class whose times are whole paces apart from its own.
func unitsHeld(l api.Loop, m api.Target, p api.Plan) bool {
	for at, s := range l.Body {
		n := 0
		for other, o := range l.Body {
			if class(o.Op) == class(s.Op) && (p.Times[other]-p.Times[at])%p.Pace == 0 {
				n++
			}
		}
		if n > m.Units[class(s.Op)] {
			return false
		}
	}
	return true
}

// waits are those of all statements together.
func waits(l api.Loop, m api.Target) int {
	sum := 0
	for _, s := range l.Body {
		sum += m.Wait[class(s.Op)]
	}
	return sum
}

// anyPlan is a legal one, in which a time or two, or the pace, may have been changed.
func anyPlan(t *testing.T, g *rand.Rand, l api.Loop, m api.Target) api.Plan {
	t.Helper()
	p, code := Make(l, m, 1+g.Intn(12))
	if code != api.OK {
		t.Fatalf("no plan of %+v, %+v", l, m)
	}
	for range g.Intn(4) {
		switch g.Intn(6) {
		case 0:
			p.Pace += g.Intn(5) - 2
		case 1:
			p.Times[g.Intn(len(p.Times))] += p.Pace * g.Intn(4)
		default:
			p.Times[g.Intn(len(p.Times))] += g.Intn(7) - 2
		}
	}
	if g.Intn(50) == 0 {
		p.Times[g.Intn(len(p.Times))] = 998 + g.Intn(6)
	}
	return p
}

func TestLegalAsTheOracleTells(t *testing.T) {
	counts := map[string]int{}
	for seed := range int64(6000) {
		g := rand.New(rand.NewSource(seed))
		l, m := anyLoop(g, 1+g.Intn(api.MaxBody)), anyMachine(g, api.MaxUnits, api.MaxWait)
		edges := edgesOf(t, l, m)
		p := anyPlan(t, g, l, m)
		rule := broken(l, m, edges, p)
		expectLegal(t, "any plan, that breaks "+rule, l, m, p, rule == "")
		counts[rule]++
	}
	if counts[""] < 1500 || counts["edges"] < 500 || counts["units"] < 100 || counts["times"] < 50 || counts["pace"] < 10 {
		t.Errorf("too little was tried: %v", counts)
	}
}

// eachPlan goes through all plans of that pace with times from 0 to high, till one is legal.
func eachPlan(l api.Loop, m api.Target, p api.Plan, at, high int) bool {
	if at == len(p.Times) {
		return Legal(l, m, p)
	}
	for time := range high + 1 {
		p.Times[at] = time
		if eachPlan(l, m, p, at+1, high) {
			return true
		}
	}
	return false
}

// G2 of Legal itself: of short loops, no plan below the bounds is legal.
func TestNoLegalPlanIsFaster(t *testing.T) {
	tried := 0
	for seed := range int64(500) {
		g := rand.New(rand.NewSource(seed))
		l, m := anyLoop(g, 3), anyMachine(g, 2, 3)
		units, rounds, code := bound.Bound(l, m)
		if code != api.OK {
			t.Fatalf("nothing to try: %+v %+v", l, m)
		}
		for pace := 1; pace < max(units, rounds); pace++ {
			tried++
			if eachPlan(l, m, api.Plan{Pace: pace, Times: make([]int, len(l.Body))}, 0, 8) {
				t.Fatalf("a plan of the pace %d is legal, and the bounds are %d and %d: %+v, %+v", pace, units, rounds, l, m)
			}
		}
	}
	if tried < 400 {
		t.Errorf("too little was tried: %d paces", tried)
	}
}
