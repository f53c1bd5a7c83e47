package sched

import "roundelay/api"

// planner puts statements in at times, one by one. Those that are in always keep all edges between them, and find units enough.
type planner struct {
	loop    api.Loop
	target  api.Target
	edges   []api.Edge
	pace    int
	heights []int
	in      []bool
	times   []int
	// next is the earliest time at which a statement may be put in again: later than ever before, so that none comes and goes for ever.
	next []int
	used map[unit]int
}

func newPlanner(l api.Loop, t api.Target, edges []api.Edge, pace int) *planner {
	n := len(l.Body)
	return &planner{
		loop:    l,
		target:  t,
		edges:   edges,
		pace:    pace,
		heights: heights(edges, n, pace),
		in:      make([]bool, n),
		times:   make([]int, n),
		next:    make([]int, n),
		used:    map[unit]int{},
	}
}

// planAt looks for a legal plan of a pace that is not below the bounds. It ends, as each statement is put in later each time, and none beyond MaxTime.
func planAt(l api.Loop, t api.Target, edges []api.Edge, pace int) (api.Plan, bool) {
	w := newPlanner(l, t, edges, pace)
	for at, left := w.highest(); left; at, left = w.highest() {
		if !w.put(at) {
			return api.Plan{}, false
		}
	}
	return api.Plan{Pace: pace, Times: w.times}, true
}

// heights tells of each statement how many cycles, at the least, lie between it and the last one that waits for it.
func heights(edges []api.Edge, body, pace int) []int {
	high := make([]int, body)
	// At a pace that is not below the bounds no round makes a way longer, and a way without one has fewer edges than there are statements.
	for range body {
		for _, e := range edges {
			high[e.From] = max(high[e.From], high[e.To]+gap(e, pace))
		}
	}
	return high
}

// highest tells which of the statements that are not in has the most behind it, and whether there is one.
func (w *planner) highest() (int, bool) {
	found, left := 0, false
	for at, in := range w.in {
		if !in && (!left || w.heights[at] > w.heights[found]) {
			found, left = at, true
		}
	}
	return found, left
}

// put puts a statement in as early as those that are in let it, and takes those out for which it comes too late then.
func (w *planner) put(at int) bool {
	time := w.ready(at)
	for time <= api.MaxTime && w.full(at, time) {
		time++
	}
	if time > api.MaxTime {
		return false
	}
	w.in[at], w.times[at], w.next[at] = true, time, time+1
	w.used[w.unit(at)]++
	for _, e := range w.edges {
		if e.From == at && w.in[e.To] && w.times[e.To] < time+gap(e, w.pace) {
			w.takeOut(e.To)
		}
	}
	return true
}

// ready tells when all that a statement waits for is there, of what is in.
func (w *planner) ready(at int) int {
	time := w.next[at]
	for _, e := range w.edges {
		if e.To == at && w.in[e.From] {
			time = max(time, w.times[e.From]+gap(e, w.pace))
		}
	}
	return time
}

func (w *planner) full(at, time int) bool {
	u := unitOf(w.loop.Body[at], time, w.pace)
	return w.used[u] == w.target.Units[u[0]]
}

func (w *planner) takeOut(at int) {
	w.in[at] = false
	w.used[w.unit(at)]--
}

func (w *planner) unit(at int) unit {
	return unitOf(w.loop.Body[at], w.times[at], w.pace)
}
