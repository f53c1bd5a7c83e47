package bound

import (
	"math/rand"
	"slices"
	"testing"

	"roundelay/api"
	"roundelay/dep"
)

func anyRef(g *rand.Rand, at, body int) api.Ref {
	if at > 0 && g.Intn(2) == 0 {
		return ref(g.Intn(at), 0)
	}
	return ref(g.Intn(body), 1+g.Intn(api.MaxBack))
}

func anyStmt(g *rand.Rand, at, body, arrays int) api.Stmt {
	ops := []int{api.LTurn, api.LOp + api.OpMul, api.LOp + api.OpSub, api.LOp + 1 + g.Intn(8)}
	s := api.Stmt{Op: ops[g.Intn(len(ops))]}
	if arrays > 0 && g.Intn(2) == 0 {
		s = api.Stmt{Op: api.LLoad + g.Intn(2), Array: g.Intn(arrays), Step: g.Intn(5) - 2, Plus: g.Intn(9) - 4}
	}
	if s.Op == api.LStore || s.Op > api.LOp {
		s.A = anyRef(g, at, body)
	}
	if s.Op > api.LOp {
		s.B = anyRef(g, at, body)
	}
	return s
}

func anyLoop(g *rand.Rand, most int) api.Loop {
	l := api.Loop{}
	for range g.Intn(api.MaxArrays + 1) {
		l.Logs = append(l.Logs, g.Intn(api.MaxLog+1))
	}
	body := 1 + g.Intn(most)
	for at := range body {
		l.Body = append(l.Body, anyStmt(g, at, body, len(l.Logs)))
	}
	return l
}

func anyMachine(g *rand.Rand, units, wait int) api.Target {
	m := api.Target{Regs: 1 + g.Intn(api.MaxRegs)}
	for class := range m.Units {
		m.Units[class], m.Wait[class] = 1+g.Intn(units), 1+g.Intn(wait)
	}
	return m
}

func edgesOf(t *testing.T, l api.Loop, m api.Target) []api.Edge {
	t.Helper()
	edges, code := dep.Edges(l, m)
	if code != api.OK {
		t.Fatalf("nothing to try: %+v %+v", l, m)
	}
	return edges
}

// spot is where a way has come to, and how many turns back in all.
type spot struct{ at, back int }

// waysOn goes one edge on from each spot, and keeps of those that come to one spot the longest wait.
func waysOn(ways map[spot]int, edges []api.Edge) map[spot]int {
	on := map[spot]int{}
	for from, wait := range ways {
		for _, e := range edges {
			if e.From != from.at {
				continue
			}
			to := spot{e.To, from.back + e.Back}
			on[to] = max(on[to], wait+e.Wait)
		}
	}
	return on
}

// oracleRounds goes every round of up to so many edges, also those that come through a statement twice, and holds its Waits against its Backs.
func oracleRounds(edges []api.Edge, body, length int) int {
	pace := 1
	for start := range body {
		ways := map[spot]int{{start, 0}: 0}
		for range length {
			ways = waysOn(ways, edges)
			for end, wait := range ways {
				for end.at == start && wait > pace*end.back {
					pace++
				}
			}
		}
	}
	return pace
}

// class is told anew here, not by package num.
func class(op int) int {
	switch op {
	case api.LOp + api.OpMul:
		return api.ClassMul
	case api.LLoad, api.LStore:
		return api.ClassMemory
	}
	return api.ClassPlain
}

func oracleUnits(l api.Loop, m api.Target) int {
	pace := 1
	for c, units := range m.Units {
		of := slices.DeleteFunc(slices.Clone(l.Body), func(s api.Stmt) bool { return class(s.Op) != c })
		for pace*units < len(of) {
			pace++
		}
	}
	return pace
}

func TestBoundAsTheOracleTells(t *testing.T) {
	counts := map[bool]int{}
	for seed := range int64(1500) {
		g := rand.New(rand.NewSource(seed))
		// Short loops go through rounds of twice their length, long ones are few, as they take long.
		most, twice := 5, 2
		if seed%15 == 0 {
			most, twice = api.MaxBody, 1
		}
		l, m := anyLoop(g, most), anyMachine(g, api.MaxUnits, api.MaxWait)
		expectUnits(t, "any loop", l, m, oracleUnits(l, m))
		want := oracleRounds(edgesOf(t, l, m), len(l.Body), twice*len(l.Body))
		expectRounds(t, "any loop", l, m, want)
		counts[want > 1]++
	}
	if counts[true] < 500 || counts[false] < 100 {
		t.Errorf("too little was tried: %v", counts)
	}
}

// limits says which of a plan's rules are asked for.
type limits struct{ edges, units bool }

// legalSoFar holds the first times of a plan to the rules of chapter 8, as far as they are of these statements.
func legalSoFar(l api.Loop, m api.Target, edges []api.Edge, p api.Plan, ask limits) bool {
	for _, e := range edges {
		if ask.edges && e.From < len(p.Times) && e.To < len(p.Times) && p.Times[e.To]+e.Back*p.Pace < p.Times[e.From]+e.Wait {
			return false
		}
	}
	used := map[[2]int]int{}
	for at, time := range p.Times {
		c := class(l.Body[at].Op)
		used[[2]int{c, time % p.Pace}]++
		if ask.units && used[[2]int{c, time % p.Pace}] > m.Units[c] {
			return false
		}
	}
	return true
}

// anyPlan looks for a plan among all whose times are below high.
func anyPlan(l api.Loop, m api.Target, edges []api.Edge, p api.Plan, high int, ask limits) bool {
	if !legalSoFar(l, m, edges, p, ask) {
		return false
	}
	if len(p.Times) == len(l.Body) {
		return true
	}
	for time := range high {
		next := api.Plan{Pace: p.Pace, Times: append(slices.Clone(p.Times), time)}
		if anyPlan(l, m, edges, next, high, ask) {
			return true
		}
	}
	return false
}

// isPlan tells whether there is any plan of that pace. A gap between times that is a pace longer than the longest wait can be cut by a pace, and the plan is as good; so times beyond a few paces need not be tried.
func isPlan(l api.Loop, m api.Target, edges []api.Edge, pace int, ask limits) bool {
	longest := max(slices.Max(m.Wait[:]), 1)
	high := pace + (len(l.Body)-1)*(longest+pace)
	return anyPlan(l, m, edges, api.Plan{Pace: pace}, high, ask)
}

// G2, of short loops and all their plans; and G1's least: each bound is the least pace of plans that need keep its rule alone.
func TestNoPlanIsFaster(t *testing.T) {
	below, reached := 0, 0
	for seed := range int64(600) {
		g := rand.New(rand.NewSource(seed))
		l, m := anyLoop(g, 4), anyMachine(g, 2, 3)
		units, rounds := boundOf(t, "any loop", l, m)
		edges := edgesOf(t, l, m)
		for pace := 1; pace < max(units, rounds); pace++ {
			below++
			if isPlan(l, m, edges, pace, limits{edges: true, units: true}) {
				t.Fatalf("a plan of the pace %d, below %d or %d: %+v, %+v", pace, units, rounds, l, m)
			}
		}
		for pace := 1; pace <= rounds; pace++ {
			if isPlan(l, m, edges, pace, limits{edges: true}) != (pace == rounds) {
				t.Fatalf("edges can be kept at the pace %d or not, and rounds are %d: %+v, %+v", pace, rounds, l, m)
			}
		}
		for pace := 1; pace <= units; pace++ {
			if isPlan(l, m, edges, pace, limits{units: true}) != (pace == units) {
				t.Fatalf("units are enough at the pace %d or not, and units are %d: %+v, %+v", pace, units, l, m)
			}
		}
		if isPlan(l, m, edges, max(units, rounds), limits{edges: true, units: true}) {
			reached++
		}
	}
	if below < 500 || reached < 500 {
		t.Errorf("too little was tried: %d paces below, %d loops with a plan at the bound", below, reached)
	}
}

// delay puts statements off, one by one, till edges and units are kept; it is no plan, if that takes too long.
func delay(l api.Loop, m api.Target, edges []api.Edge, pace int) (api.Plan, bool) {
	p := api.Plan{Pace: pace, Times: make([]int, len(l.Body))}
	for !legalSoFar(l, m, edges, p, limits{edges: true, units: true}) {
		for at := range p.Times {
			first := api.Plan{Pace: pace, Times: p.Times[:at+1]}
			if !legalSoFar(l, m, nil, first, limits{units: true}) {
				p.Times[at]++
			}
		}
		for _, e := range edges {
			p.Times[e.To] = max(p.Times[e.To], p.Times[e.From]+e.Wait-e.Back*pace)
		}
		if slices.Max(p.Times) > api.MaxTime {
			return api.Plan{}, false
		}
	}
	return p, true
}

// G2, of loops of all lengths: a plan that is found, by whatever means, is none below the bounds.
func TestNoPlanOfLongLoopsIsFaster(t *testing.T) {
	reached := 0
	for seed := range int64(150) {
		g := rand.New(rand.NewSource(seed))
		l, m := anyLoop(g, api.MaxBody), anyMachine(g, api.MaxUnits, api.MaxWait)
		units, rounds := boundOf(t, "any loop", l, m)
		edges := edgesOf(t, l, m)
		for pace := 1; pace <= max(units, rounds); pace++ {
			p, ok := delay(l, m, edges, pace)
			if ok && (p.Pace < units || p.Pace < rounds) {
				t.Fatalf("the plan %+v, below %d or %d: %+v, %+v", p, units, rounds, l, m)
			}
			if ok {
				reached++
			}
		}
	}
	if reached < 75 {
		t.Errorf("only %d loops with a plan at the bound", reached)
	}
}
