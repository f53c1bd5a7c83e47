package kernel

import (
	"roundelay/api"
	"roundelay/num"
	"roundelay/target"
)

// machine is a machine on which a kernel is run.
type machine struct {
	api.Target
	api.Kernel
	logs   []int
	regs   []int64
	memory [][]int64
	turns  int
	// due has the results that are not there yet, in the order in which their Ops were done. No result is due more than MaxWait cycles later, so that a list may serve again for the cycle MaxWait behind its own.
	due [api.MaxWait][]result
}

// result is what an Op came to, on its way into a register.
type result struct {
	reg int
	is  int64
}

func (m *machine) run() {
	slots := m.slots()
	cycle := 0
	for pace := range m.turns + m.Stages - 1 {
		for _, ops := range slots {
			m.land(cycle)
			m.do(ops, pace, cycle)
			cycle++
		}
	}
	for range api.MaxWait {
		m.land(cycle)
		cycle++
	}
}

// slots has the Ops of each Slot, in order.
func (m *machine) slots() [][]api.Op {
	slots := make([][]api.Op, m.Pace)
	for _, op := range m.Ops {
		slots[op.Slot] = append(slots[op.Slot], op)
	}
	return slots
}

// land brings the results that are due in a cycle into their registers.
func (m *machine) land(cycle int) {
	due := m.dueAt(cycle)
	for _, r := range *due {
		m.regs[r.reg] = r.is
	}
	*due = (*due)[:0]
}

func (m *machine) dueAt(cycle int) *[]result {
	return &m.due[cycle%len(m.due)]
}

// do does the Ops of one Slot of a pace, each for its own turn.
func (m *machine) do(ops []api.Op, pace, cycle int) {
	// Stores wait till all Ops have been done: loads of the same cycle find the words as they were.
	var stores []func()
	for _, op := range ops {
		turn := pace - op.Stage
		if !within(turn, 0, m.turns-1) {
			continue
		}
		is := m.comesTo(op, pace, turn)
		if op.Op == api.LStore {
			word := m.word(op, turn)
			stores = append(stores, func() { *word = is })
		}
		due := m.dueAt(cycle + target.Wait(m.Target, op.Op))
		*due = append(*due, result{m.number(op.Dest, pace), is})
	}
	for _, store := range stores {
		store()
	}
}

func (m *machine) comesTo(op api.Op, pace, turn int) int64 {
	switch op.Op {
	case api.LConst:
		return op.N
	case api.LTurn:
		return int64(turn)
	case api.LLoad:
		return *m.word(op, turn)
	}
	a, b := m.regs[m.number(op.A, pace)], m.regs[m.number(op.B, pace)]
	if op.Op == api.LStore {
		return a
	}
	return num.Op(op.Op-api.LOp, a, b)
}

// word is where an Op loads from, or stores to, in a turn.
func (m *machine) word(op api.Op, turn int) *int64 {
	return &m.memory[op.Array][num.Index(op.Step, op.Plus, turn, m.logs[op.Array])]
}

// number is the number, of all Regs, that a register has in a pace.
func (m *machine) number(r, pace int) int {
	return (r + pace) % m.Regs
}
