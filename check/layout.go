package check

import (
	"roundelay/api"
	"roundelay/dep"
	"roundelay/loop"
	"roundelay/target"
)

// layout is a loop with a kernel laid against it. When and where are told of the turn 0; of each turn on it is one pace later, and one register on.
type layout struct {
	api.Loop
	pace, regs int
	// Of each statement: when it is done, from when on its result is there, and in which register, as long as nothing is divided.
	times, ready, places []int
	reads                []read
	// starts has of each register that is read ahead of any result which statement it is of, and how many turns back.
	starts map[int]api.Ref
}

// read is a Ref that a statement looks at, with the name of the register that its Op reads for it.
type read struct {
	api.Ref
	time, stage, name int
}

// lay lays a kernel against a loop that it matches.
func lay(l api.Loop, t api.Target, k api.Kernel, order []int) *layout {
	y := &layout{Loop: l, pace: k.Pace, regs: t.Regs}
	for at, s := range l.Body {
		op := k.Ops[order[at]]
		time := op.Slot + op.Stage*k.Pace
		y.times = append(y.times, time)
		y.ready = append(y.ready, time+target.Wait(t, s.Op))
		y.places = append(y.places, op.Dest+op.Stage)
		refs, names := [2]api.Ref{s.A, s.B}, [2]int{op.A, op.B}
		for i := range loop.Looks(s.Op) {
			y.reads = append(y.reads, read{refs[i], time, op.Stage, names[i]})
		}
	}
	return y
}

// begins finds where that is which is read of the turns ahead of the first one, and tells whether each register has at most one such number.
func (y *layout) begins() bool {
	farthest := make([]int, len(y.Body))
	for _, r := range y.reads {
		farthest[r.At] = max(farthest[r.At], r.Back)
	}
	y.starts = map[int]api.Ref{}
	for at, most := range farthest {
		for back := 1; back <= most; back++ {
			register := y.left(y.places[at] - back)
			if _, ok := y.starts[register]; ok {
				return false
			}
			y.starts[register] = api.Ref{At: at, Back: back}
		}
	}
	return true
}

// waits tells whether each edge is kept.
func (y *layout) waits(t api.Target) bool {
	edges, _ := dep.Edges(y.Loop, t)
	for _, e := range edges {
		if y.times[e.To]+e.Back*y.pace < y.times[e.From]+e.Wait {
			return false
		}
	}
	return true
}

// names tells whether each register that is read is the one that the result is in.
func (y *layout) names() bool {
	for _, r := range y.reads {
		if r.name != y.left(y.places[r.At]-r.Back-r.stage) {
			return false
		}
	}
	return true
}

// keeps tells whether each register that is read still has then what it is read for.
func (y *layout) keeps() bool {
	for _, r := range y.reads {
		until := r.time + r.Back*y.pace
		for m := range y.Body {
			first := y.notAhead(r.At, m)
			if r.Back > 0 {
				// What is read may be there from the beginning on, and not by a result: then each turn of the loop comes behind it.
				first = min(first, 1)
			}
			last := floor(until-y.ready[m], y.pace)
			if y.meets(r.At, m, first, last) {
				return false
			}
		}
	}
	return true
}

// ends tells whether what is in the register of each of Outs, of the last turn, comes behind all else there: no turn is behind that one.
func (y *layout) ends() bool {
	for _, a := range y.Outs {
		for m := range y.Body {
			if y.meets(a, m, y.notAhead(a, m), 0) {
				return false
			}
		}
	}
	return true
}

// notAhead tells the first turn, counted from one of a on, of which m's result comes no sooner than a's. That a's comes no sooner than itself does not count.
func (y *layout) notAhead(a, m int) int {
	if m == a {
		return 1
	}
	return -floor(y.ready[m]-y.ready[a], y.pace)
}

// meets tells whether m's result, in one of the turns from first to last, counted from one of a on, goes to the register that a's goes to.
func (y *layout) meets(a, m, first, last int) bool {
	return first+y.left(y.places[a]-y.places[m]-first) <= last
}

// left is what is left of n, divided by Regs, from 0 on.
func (y *layout) left(n int) int {
	return n - floor(n, y.regs)*y.regs
}

// floor is n divided by d, which is above 0, rounded down, also below 0.
func floor(n, d int) int {
	if n%d < 0 {
		return n/d - 1
	}
	return n / d
}
