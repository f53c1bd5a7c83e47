// Package num has the numbers of roundelay: what operations come to, which class of units does a statement, and where in an array an index falls. See doc/01-num.md.
package num

import (
	"cmp"

	"roundelay/api"
)

// Op tells what an operation of two numbers of 64 bits comes to; 0 of what is no operation.
func Op(op int, a, b int64) int64 {
	truth := func(order int) int64 {
		if cmp.Compare(a, b) == order {
			return 1
		}
		return 0
	}
	switch op {
	case api.OpAdd:
		return a + b
	case api.OpSub:
		return a - b
	case api.OpMul:
		return a * b
	case api.OpAnd:
		return a & b
	case api.OpOr:
		return a | b
	case api.OpXor:
		return a ^ b
	case api.OpLess:
		return truth(-1)
	case api.OpSame:
		return truth(0)
	}
	return 0
}

// Class tells which class of units does a statement with that Op.
func Class(op int) int {
	switch op {
	case api.LLoad, api.LStore:
		return api.ClassMemory
	case api.LOp + api.OpMul:
		return api.ClassMul
	}
	return api.ClassPlain
}

// Index tells which word of an array of 2^log words a statement is at in a turn; 0 where a number is beyond its limits.
func Index(step, plus, turn, log int) int {
	if !within(log, 0, api.MaxLog) || !within(turn, 0, api.MaxTurns) {
		return 0
	}
	if !within(step, -api.MaxStep, api.MaxStep) || !within(plus, -api.MaxStep, api.MaxStep) {
		return 0
	}
	// The mask, unlike %, leaves a rest from 0 on of numbers below 0 too.
	return (step*turn + plus) & (1<<log - 1)
}

func within(n, low, high int) bool {
	return low <= n && n <= high
}
