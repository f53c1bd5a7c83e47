package num

import (
	"math"
	"math/big"
	"testing"

	"roundelay/api"
)

// edges are numbers of 64 bits at which operations may go wrong.
var edges = []int64{
	math.MinInt64, math.MinInt64 + 1, -1 << 62, -1 << 32, -3, -2, -1, 0,
	1, 2, 3, 1 << 31, 1 << 32, 0x0123456789abcdef, 1 << 62, math.MaxInt64 - 1, math.MaxInt64,
}

// wild are ints that no limit takes in.
var wild = []int{math.MinInt, math.MinInt + 1, math.MinInt32, math.MaxInt32, math.MaxInt - 1, math.MaxInt}

// low64 drops what is beyond 64 bits, by numbers that have no such bound.
func low64(n *big.Int) int64 {
	rest := new(big.Int).Mod(n, new(big.Int).Lsh(big.NewInt(1), 64))
	return int64(rest.Uint64())
}

// bitwise asks each pair of bits on its own.
func bitwise(a, b int64, pick func(x, y bool) bool) int64 {
	var out uint64
	for i := range 64 {
		if pick(uint64(a)>>i&1 == 1, uint64(b)>>i&1 == 1) {
			out |= 1 << i
		}
	}
	return int64(out)
}

func TestOpExamples(t *testing.T) {
	cases := []struct {
		name string
		op   int
		a, b int64
		want int64
	}{
		{"add", api.OpAdd, 2, 3, 5},
		{"add beyond the top", api.OpAdd, math.MaxInt64, 1, math.MinInt64},
		{"add beyond the bottom", api.OpAdd, math.MinInt64, -1, math.MaxInt64},
		{"sub", api.OpSub, 2, 3, -1},
		{"sub beyond the bottom", api.OpSub, math.MinInt64, 1, math.MaxInt64},
		{"sub of the least from 0", api.OpSub, 0, math.MinInt64, math.MinInt64},
		{"mul", api.OpMul, -4, 3, -12},
		{"mul that leaves nothing", api.OpMul, 1 << 32, 1 << 32, 0},
		{"mul of the least and -1", api.OpMul, math.MinInt64, -1, math.MinInt64},
		{"and", api.OpAnd, 12, 10, 8},
		{"or", api.OpOr, 12, 10, 14},
		{"xor", api.OpXor, 12, 10, 6},
		{"and below 0", api.OpAnd, -2, -3, -4},
		{"or below 0", api.OpOr, math.MinInt64, 1, math.MinInt64 + 1},
		{"xor below 0", api.OpXor, -1, math.MaxInt64, math.MinInt64},
		{"less", api.OpLess, 1, 2, 1},
		{"less of the same", api.OpLess, 2, 2, 0},
		{"less of the greater", api.OpLess, 3, 2, 0},
		{"less has signs", api.OpLess, -1, 0, 1},
		{"less, where the difference wraps", api.OpLess, math.MinInt64, math.MaxInt64, 1},
		{"less, where it wraps the other way", api.OpLess, math.MaxInt64, math.MinInt64, 0},
		{"same", api.OpSame, -7, -7, 1},
		{"same of others", api.OpSame, 7, -7, 0},
		{"same has all bits", api.OpSame, 1, 1<<32 + 1, 0},
	}
	for _, c := range cases {
		if got := Op(c.op, c.a, c.b); got != c.want {
			t.Errorf("%s: Op(%d, %d, %d) = %d, want %d", c.name, c.op, c.a, c.b, got, c.want)
		}
	}
}

// opByOtherMeans works an operation out without the machine's own arithmetic of 64 bits.
func opByOtherMeans(op int, a, b int64) int64 {
	x, y := big.NewInt(a), big.NewInt(b)
	truth := map[bool]int64{true: 1}
	switch op {
	case api.OpAdd:
		return low64(new(big.Int).Add(x, y))
	case api.OpSub:
		return low64(new(big.Int).Sub(x, y))
	case api.OpMul:
		return low64(new(big.Int).Mul(x, y))
	case api.OpAnd:
		return bitwise(a, b, func(x, y bool) bool { return x && y })
	case api.OpOr:
		return bitwise(a, b, func(x, y bool) bool { return x || y })
	case api.OpXor:
		return bitwise(a, b, func(x, y bool) bool { return x != y })
	case api.OpLess:
		return truth[x.Cmp(y) < 0]
	case api.OpSame:
		return truth[x.Cmp(y) == 0]
	}
	return 0
}

func TestOpAtEdges(t *testing.T) {
	for op := api.OpAdd; op <= api.OpSame; op++ {
		for _, a := range edges {
			for _, b := range edges {
				if got, want := Op(op, a, b), opByOtherMeans(op, a, b); got != want {
					t.Errorf("Op(%d, %d, %d) = %d, want %d", op, a, b, got, want)
				}
			}
		}
	}
}

func TestOpOfOtherOps(t *testing.T) {
	ops := append([]int{1 << 8, 1<<8 + api.OpAdd, 1<<16 + api.OpMul, 1<<30 + api.OpSame}, wild...)
	for op := -300; op <= 300; op++ {
		if op < api.OpAdd || op > api.OpSame {
			ops = append(ops, op)
		}
	}
	for _, op := range ops {
		for _, a := range edges {
			for _, b := range edges {
				if got := Op(op, a, b); got != 0 {
					t.Fatalf("Op(%d, %d, %d) = %d, want 0", op, a, b, got)
				}
			}
		}
	}
}

func TestClass(t *testing.T) {
	named := map[int]int{
		api.LLoad:           api.ClassMemory,
		api.LStore:          api.ClassMemory,
		api.LOp + api.OpMul: api.ClassMul,
	}
	ops := append([]int{1<<8 + api.LLoad, 1<<16 + api.LStore, 1<<30 + api.LOp + api.OpMul}, wild...)
	for op := -300; op <= 300; op++ {
		ops = append(ops, op)
	}
	for _, op := range ops {
		want, ok := named[op]
		if !ok {
			want = api.ClassPlain
		}
		if got := Class(op); got != want {
			t.Errorf("Class(%d) = %d, want %d", op, got, want)
		}
	}
}

func TestIndexExamples(t *testing.T) {
	cases := []struct {
		name                  string
		step, plus, turn, log int
		want                  int
	}{
		{"plus alone", 0, 5, 9, 3, 5},
		{"step alone", 3, 0, 2, 3, 6},
		{"both", 3, 4, 2, 3, 2},
		{"turn 0", 64, 7, 0, 3, 7},
		{"just the length", 1, 0, 8, 3, 0},
		{"just below 0", 0, -1, 0, 5, 31},
		{"below 0 by the length", 0, -32, 0, 5, 0},
		{"far below 0", -64, -63, 200, 5, 1},
		{"one word alone", 7, -3, 11, 0, 0},
		{"all at their most", 64, 64, 200, 5, 0},
		{"odd, at the most turns", 63, 64, 200, 5, 24},
	}
	for _, c := range cases {
		if got := Index(c.step, c.plus, c.turn, c.log); got != c.want {
			t.Errorf("%s: Index(%d, %d, %d, %d) = %d, want %d", c.name, c.step, c.plus, c.turn, c.log, got, c.want)
		}
	}
}

// rest divides as schools do: what is left is from 0 on.
func rest(n, by int) int {
	return (n%by + by) % by
}

func TestIndexWithinLimits(t *testing.T) {
	for log := range api.MaxLog + 1 {
		words := int(math.Pow(2, float64(log)))
		for turn := range api.MaxTurns + 1 {
			for step := -api.MaxStep; step <= api.MaxStep; step++ {
				for plus := -api.MaxStep; plus <= api.MaxStep; plus++ {
					if got, want := Index(step, plus, turn, log), rest(step*turn+plus, words); got != want {
						t.Fatalf("Index(%d, %d, %d, %d) = %d, want %d", step, plus, turn, log, got, want)
					}
				}
			}
		}
	}
}

func TestIndexBeyondLimits(t *testing.T) {
	// Around each wrong number the others are such that, were it taken, the answer would not be 0.
	steps := append([]int{-api.MaxStep - 1, api.MaxStep + 1, -67, 67}, wild...)
	for _, step := range steps {
		expectZero(t, step, rest(1-step%8, 8), 1, 3)
		expectZero(t, step, 1, 0, 3)
	}
	for _, plus := range steps {
		expectZero(t, 0, plus, 0, 5)
		expectZero(t, rest(1-plus%8, 8), plus, 1, 3)
	}
	for _, turn := range append([]int{-1, -2, -8, api.MaxTurns + 1, api.MaxTurns + 2, 1 << 20}, wild...) {
		expectZero(t, 1, rest(1-turn%8, 8), turn, 3)
		expectZero(t, 0, 1, turn, 3)
	}
	for _, log := range append([]int{-1, -2, -64, api.MaxLog + 1, api.MaxLog + 2, 31, 32, 62, 63, 64, 65}, wild...) {
		expectZero(t, 0, 1, 0, log)
		expectZero(t, 1, -3, 4, log)
	}
	for _, n := range wild {
		expectZero(t, n, n, n, n)
	}
}

func expectZero(t *testing.T, step, plus, turn, log int) {
	t.Helper()
	if got := Index(step, plus, turn, log); got != 0 {
		t.Errorf("Index(%d, %d, %d, %d) = %d, want 0", step, plus, turn, log, got)
	}
}
