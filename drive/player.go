package drive

import (
	"slices"
	"strings"

	"roundelay/api"
	"roundelay/bound"
	"roundelay/build"
	"roundelay/check"
	"roundelay/dep"
	"roundelay/kernel"
	"roundelay/seq"
	"roundelay/target"
	"roundelay/text"
)

// mostWords is how many words a line has at most, that of a machine; bytes for the text are no words.
const mostWords = 8

// player is the machine of a script, and its text, as far as lines have been answered.
type player struct {
	api.Target
	text strings.Builder
}

// answer does what a line asks, and tells the words of its answer.
func (p *player) answer(line string) []string {
	if bytes, ok := strings.CutPrefix(line, "= "); ok {
		return p.extend(bytes)
	}
	// All other lines are a word and NUMBERs. One word too many tells as much as all of them.
	words := strings.SplitN(line, " ", mostWords+1)
	numbers, ok := numbersOf(words[1:])
	if !ok {
		return unknown()
	}
	switch word, count := words[0], len(numbers); {
	case word == "fresh" && count == 0:
		return p.fresh()
	case word == "machine" && count == 7:
		return p.machine(numbers)
	case word == "edges" && count == 0:
		return p.ofLoop(p.edges)
	case word == "bound" && count == 0:
		return p.ofLoop(p.bound)
	case word == "build" && count == 0:
		return p.ofLoop(p.build)
	case word == "turns" && count == 1:
		return p.ofLoop(func(l api.Loop) []string { return p.turns(l, numbers[0]) })
	}
	return unknown()
}

func (p *player) extend(bytes string) []string {
	p.text.WriteString(bytes)
	p.text.WriteByte('\n')
	return slices.Concat(done(), told(p.text.Len()))
}

func (p *player) fresh() []string {
	p.text.Reset()
	return done()
}

// machine takes seven numbers for the machine's own, if it may be with them.
func (p *player) machine(n []int) []string {
	was := p.Target
	p.Units = [3]int{n[0], n[1], n[2]}
	p.Wait = [3]int{n[3], n[4], n[5]}
	p.Regs = n[6]
	if !target.May(p.Target) {
		p.Target = was
		return unknown()
	}
	return done()
}

// ofLoop asks something of the loop, if the text is that of one.
func (p *player) ofLoop(ask func(api.Loop) []string) []string {
	l, fault := text.Parse(p.text.String())
	if fault.Code != api.OK {
		return slices.Concat([]string{"bad"}, told(fault.At))
	}
	return ask(l)
}

func (p *player) edges(l api.Loop) []string {
	edges, _ := dep.Edges(l, p.Target)
	return told(len(edges))
}

func (p *player) bound(l api.Loop) []string {
	units, rounds, _ := bound.Bound(l, p.Target)
	return told(units, rounds)
}

func (p *player) build(l api.Loop) []string {
	k, _, code := build.Build(l, p.Target)
	if code != api.OK {
		return none()
	}
	numbers := []int{k.Pace, k.Stages}
	for _, op := range k.Ops {
		numbers = append(numbers, op.Slot, op.Stage, op.Dest)
	}
	return told(numbers...)
}

// turns tells what the Outs come to in so many turns, done one behind the other, and overlapping.
func (p *player) turns(l api.Loop, turns int) []string {
	if turns > api.MaxTurns {
		return unknown()
	}
	k, order, code := build.Build(l, p.Target)
	if code != api.OK {
		return none()
	}
	s := zeros(l)
	alone, _ := seq.Run(l, s, turns)
	regs, _ := check.Enter(l, p.Target, k, order, s.Before)
	regs, _, _ = kernel.Run(p.Target, k, regs, s.Memory, turns)
	overlapping, _ := check.Leave(l, p.Target, k, order, s.Before, regs, turns)
	return slices.Concat(told(alone.Outs...), []string{":"}, told(overlapping...))
}

// zeros is the state that fits a loop, with zeros alone.
func zeros(l api.Loop) api.State {
	s := api.State{}
	for range l.Body {
		s.Before = append(s.Before, make([]int64, api.MaxBack))
	}
	for _, log := range l.Logs {
		s.Memory = append(s.Memory, make([]int64, 1<<log))
	}
	return s
}
