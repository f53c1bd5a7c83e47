package regs

import (
	"roundelay/api"
	"roundelay/loop"
	"roundelay/target"
)

// life is what the result of a statement asks of its register, told of the turn 0; of each turn on it is one pace later.
type life struct {
	// ready is when the result comes, until when it is read last, or just ahead of ready, if it never is. A legal plan has no read ahead of ready, so that of several reads the last one alone counts.
	ready, until int
	// back is how many turns back it is looked at, at the most: what it was so many turns ahead of the first one is there from the beginning on.
	back int
	// out tells that it is asked for behind all turns.
	out bool
}

// livesOf tells the life of each statement's result, in a legal plan.
func livesOf(l api.Loop, t api.Target, p api.Plan) []life {
	lives := make([]life, len(l.Body))
	for at := range len(l.Body) {
		ready := p.Times[at] + target.Wait(t, l.Body[at].Op)
		lives[at] = life{ready: ready, until: ready - 1}
	}
	for at := range len(l.Body) {
		s := l.Body[at]
		refs := [2]api.Ref{s.A, s.B}
		for _, r := range refs[:loop.Looks(s.Op)] {
			v := &lives[r.At]
			v.until = max(v.until, p.Times[at]+r.Back*p.Pace)
			v.back = max(v.back, r.Back)
		}
	}
	for _, at := range l.Outs {
		lives[at].out = true
	}
	return lives
}

// turnsWithin tells the first and the last turn, counted from one of a on, of which m's result would end a's life too soon, if it came to the same register. There is none, if the last one is below the first one.
func turnsWithin(lives []life, a, m, pace int) (int, int) {
	first := -floor(lives[m].ready-lives[a].ready, pace)
	if m == a {
		// A result does not end its own life.
		first = 1
	}
	if lives[a].back > 0 {
		// What is read may be there from the beginning on, and not by a result: then each turn of the loop comes behind it.
		first = min(first, 1)
	}
	last := floor(lives[a].until-lives[m].ready, pace)
	if lives[a].out {
		// No turn comes behind the last one; but what the last ones come to may come in any order.
		last = max(last, 0)
	}
	return first, last
}
