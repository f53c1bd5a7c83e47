package sched

import (
	"fmt"
	"math/rand"
	"reflect"
	"slices"
	"testing"

	"roundelay/api"
	"roundelay/bound"
	"roundelay/target"
)

// planOf makes a plan, and holds it against all that H2 says of it.
func planOf(t *testing.T, name string, l api.Loop, m api.Target, least int) api.Plan {
	t.Helper()
	p, code := Make(l, m, least)
	if code != api.OK {
		t.Fatalf("%s: code %d of %+v, %+v, from %d on", name, code, l, m, least)
	}
	if p.Pace < least || p.Pace > max(least, waits(l, m)) {
		t.Errorf("%s: pace %d, want one from %d to %d: %+v, %+v", name, p.Pace, least, max(least, waits(l, m)), l, m)
	}
	if rule := broken(l, m, edgesOf(t, l, m), p); rule != "" {
		t.Errorf("%s: the plan %+v breaks %s: %+v, %+v, from %d on", name, p, rule, l, m, least)
	}
	if !Legal(l, m, p) {
		t.Errorf("%s: the plan %+v is not legal: %+v, %+v, from %d on", name, p, l, m, least)
	}
	return p
}

func expectPace(t *testing.T, name string, l api.Loop, m api.Target, least, want int) {
	t.Helper()
	if p := planOf(t, name, l, m, least); p.Pace != want {
		t.Errorf("%s: pace %d, want %d: %+v, %+v, from %d on", name, p.Pace, want, l, m, least)
	}
}

func expectCode(t *testing.T, name string, l api.Loop, m api.Target, least int, want api.Errno) {
	t.Helper()
	if p, code := Make(l, m, least); code != want || p.Pace != 0 || len(p.Times) != 0 {
		t.Errorf("%s: %+v, code %d, want nothing and %d", name, p, code, want)
	}
}

// Where least is as slow as statements one by one, or slower, no other pace is allowed.
func TestMakeKeepsToLeast(t *testing.T) {
	one := api.Loop{Body: []api.Stmt{turn()}}
	for least := 1; least <= api.MaxPace; least++ {
		planOf(t, "the sample", sample(), machine(), least)
		m := machine()
		m.Wait[0] = 1
		expectPace(t, "one statement", one, m, least, least)
		m.Wait[0] = 6
		planOf(t, "one statement, with a long wait", one, m, least)
	}
	// 2 and 2 and 3 and 5 and 3 and 2.
	for _, least := range []int{17, 18, 96, 199, 200} {
		expectPace(t, "as slow as one by one, or slower", sample(), machine(), least, least)
	}
}

// A round through all statements leaves no other pace than that of all Waits together, and no other times than one by one.
func TestMakeAtTheSlowest(t *testing.T) {
	for n := 1; n <= api.MaxBody; n++ {
		for wait := 1; wait <= api.MaxWait; wait++ {
			m := api.Target{Units: [3]int{1, 1, 1}, Wait: [3]int{wait, 1, 1}, Regs: 1}
			body := []api.Stmt{add(ref(n-1, 1), ref(n-1, 1))}
			for at := 1; at < n; at++ {
				body = append(body, add(ref(at-1, 0), ref(at-1, 0)))
			}
			l := api.Loop{Body: body}
			expectPace(t, "a round through all", l, m, 1, n*wait)
			expectPace(t, "a round through all, asked for", l, m, n*wait, n*wait)
			expectPace(t, "a round through all, and a cycle more", l, m, n*wait+1, n*wait+1)
			expectPace(t, "a round through all, and the most", l, m, 200, 200)
		}
	}
}

// crowded are loops whose statements are all of one class, and stores that all wait for each other.
func crowded() []api.Loop {
	loops := []api.Loop{}
	for class := range 3 {
		for _, n := range []int{1, 2, 5, 15, 16} {
			loops = append(loops, api.Loop{Logs: []int{5}, Body: ofClass(class, n)})
		}
	}
	for log := range 3 {
		loops = append(loops, api.Loop{Logs: []int{log}, Body: slices.Repeat([]api.Stmt{store(1, 0, ref(0, 3))}, 16)})
		loops = append(loops, api.Loop{Logs: []int{log}, Body: slices.Repeat([]api.Stmt{load(0, 0), store(0, 0, ref(0, 1))}, 8)})
	}
	return loops
}

func TestMakeOfCrowdedLoops(t *testing.T) {
	for i, l := range crowded() {
		for units := 1; units <= api.MaxUnits; units++ {
			for wait := 1; wait <= api.MaxWait; wait++ {
				m := api.Target{Units: [3]int{units, units, units}, Wait: [3]int{wait, wait, wait}, Regs: 1}
				for _, least := range []int{1, 3, 16, 50, 95, 96, 97, 200} {
					planOf(t, fmt.Sprint("crowded ", i), l, m, least)
				}
			}
		}
	}
}

// Any loop, on any machine, from any pace on; and which plan it is hangs on these alone.
func TestMakeOfAnyLoop(t *testing.T) {
	for seed := range int64(4000) {
		g := rand.New(rand.NewSource(seed))
		l, m := anyLoop(g, 1+g.Intn(api.MaxBody)), anyMachine(g, 1+g.Intn(api.MaxUnits), api.MaxWait)
		most := waits(l, m)
		leasts := []int{1, 1 + g.Intn(most), most, 1 + g.Intn(api.MaxPace)}
		for _, least := range leasts {
			p := planOf(t, "any loop", l, m, least)
			if again := planOf(t, "once more", l, m, least); !reflect.DeepEqual(p, again) {
				t.Errorf("%+v, and once more %+v: %+v, %+v, from %d on", p, again, l, m, least)
			}
		}
	}
}

// What is left where no faster plan is found: it must be legal of every loop, at no other pace than the slowest that is allowed.
func TestOneByOneIsLegal(t *testing.T) {
	for seed := range int64(2000) {
		g := rand.New(rand.NewSource(seed))
		l, m := anyLoop(g, api.MaxBody), anyMachine(g, api.MaxUnits, api.MaxWait)
		for _, least := range []int{1, waits(l, m), waits(l, m) + 1, 200} {
			p := OneByOne(l, m, least)
			if p.Pace != max(least, waits(l, m)) {
				t.Errorf("pace %d from %d on: %+v, %+v", p.Pace, least, l, m)
			}
			expectLegal(t, "one by one", l, m, p, true)
			for at, s := range l.Body {
				if p.Times[at]+target.Wait(m, s.Op) > p.Pace {
					t.Errorf("the result of %d comes behind the pace: %+v: %+v, %+v", at, p, l, m)
				}
			}
		}
	}
}

// That Make ends rests on this: a statement that is put in again is put in later, and none beyond MaxTime.
func TestPuttingInEnds(t *testing.T) {
	for seed := range int64(200) {
		g := rand.New(rand.NewSource(seed))
		l, m := anyLoop(g, api.MaxBody), anyMachine(g, api.MaxUnits, api.MaxWait)
		w := newPlanner(l, m, edgesOf(t, l, m), 1+g.Intn(20))
		at, last := g.Intn(len(l.Body)), -1
		for w.put(at) {
			if w.times[at] <= last || w.times[at] > 1000 {
				t.Fatalf("put in at %d, and then at %d: %+v, %+v", last, w.times[at], l, m)
			}
			last = w.times[at]
			if w.in[at] {
				w.takeOut(at)
			}
		}
		if last < 990 {
			t.Errorf("not put in later than %d: %+v, %+v", last, l, m)
		}
	}
}

// What H2 doesn't ask for, but turns are to overlap: most plans are as fast as the bounds allow.
func TestMakeIsMostlyAtTheBounds(t *testing.T) {
	at, tried := 0, 0
	for seed := range int64(1000) {
		g := rand.New(rand.NewSource(seed))
		// With one unit of each class, units are hardest to find.
		l, m := anyLoop(g, api.MaxBody), anyMachine(g, 1, api.MaxWait)
		units, rounds, code := bound.Bound(l, m)
		p := planOf(t, "any loop", l, m, 1)
		if code != api.OK || p.Pace < max(units, rounds) {
			t.Fatalf("the plan %+v, below %d or %d: %+v, %+v", p, units, rounds, l, m)
		}
		tried++
		if p.Pace == max(units, rounds) {
			at++
		}
	}
	if at*10 < tried*9 {
		t.Errorf("of %d plans only %d are as fast as the bounds", tried, at)
	}
}

// Likewise: without a round, units alone tell how fast turns can begin.
func TestMakeWithoutRounds(t *testing.T) {
	for seed := range int64(1000) {
		g := rand.New(rand.NewSource(seed))
		l, m := api.Loop{Logs: []int{3}, Body: []api.Stmt{turn()}}, anyMachine(g, api.MaxUnits, api.MaxWait)
		body := 1 + g.Intn(api.MaxBody)
		for at := 1; at < body; at++ {
			a, b := ref(g.Intn(at), g.Intn(4)), ref(g.Intn(at), g.Intn(4))
			l.Body = append(l.Body, []api.Stmt{turn(), add(a, b), mul(a, b), load(1, at)}[g.Intn(4)])
		}
		units, _, _ := bound.Bound(l, m)
		expectPace(t, "no round", l, m, 1, units)
		expectPace(t, "no round, and the pace that is asked for", l, m, units+1, units+1)
	}
}

func TestMakeRefusesLeast(t *testing.T) {
	for _, least := range append([]int{-200, -1, 0, 201, 202, 1000}, wild...) {
		expectCode(t, fmt.Sprint("from ", least, " on"), sample(), machine(), least, api.ErrRange)
		expectCode(t, fmt.Sprint("one statement, from ", least, " on"), api.Loop{Body: []api.Stmt{turn()}}, machine(), least, api.ErrRange)
	}
}

// What may not be is told ahead of a pace that is none.
func TestMakeRefusesLoopsAndMachines(t *testing.T) {
	for _, least := range []int{1, 200, 0, 201, -1, wild[0]} {
		for name, l := range spoiled() {
			expectCode(t, name, l, machine(), least, api.ErrForm)
			expectCode(t, name+", and no machine", l, api.Target{}, least, api.ErrForm)
		}
		for _, m := range spoiledMachines() {
			expectCode(t, "no machine", sample(), m, least, api.ErrForm)
			expectCode(t, "no machine, no edge", api.Loop{Body: []api.Stmt{turn()}}, m, least, api.ErrForm)
		}
	}
}

func TestMakeReadsAndWritesNothingBehindALength(t *testing.T) {
	for _, least := range []int{1, 10, 20} {
		want := planOf(t, "the sample", sample(), machine(), least)
		l, whole := sampleBehind()
		if p := planOf(t, "more behind the lengths", l, machine(), least); !reflect.DeepEqual(p, want) {
			t.Errorf("%+v, want %+v", p, want)
		}
		if !whole() {
			t.Errorf("written behind the lengths: %+v", l)
		}
	}
}

// An answer is nobody else's: what is written into it changes neither what was handed in nor what is answered next.
func TestMakeAnswersNewMemory(t *testing.T) {
	for _, least := range []int{1, 10, 20} {
		l := sample()
		first := planOf(t, "the sample", l, machine(), least)
		want := slices.Clone(first.Times)
		for at := range first.Times {
			first.Times[at] = -1
		}
		second := planOf(t, "once more", l, machine(), least)
		if !slices.Equal(second.Times, want) || !reflect.DeepEqual(l, sample()) {
			t.Errorf("%+v, want the times %v: %+v", second, want, l)
		}
	}
}
