package seq

import (
	"math"
	"math/rand"
	"reflect"
	"slices"
	"testing"

	"roundelay/api"
	"roundelay/loop"
)

func ref(at, back int) api.Ref { return api.Ref{At: at, Back: back} }

// wild are numbers of turns that are never taken.
var wild = []int{math.MinInt, math.MinInt + 1, math.MinInt32, -200, -2, -1, 201, 202, 256, 1 << 16, math.MaxInt32, 1 << 32, 1<<32 + 1, math.MaxInt - 1, math.MaxInt}

// sample has a statement of each kind, and words that one stores and another loads.
func sample() api.Loop {
	return api.Loop{
		Logs: []int{0, 2},
		Body: []api.Stmt{
			{Op: api.LConst, N: -7},
			{Op: api.LTurn},
			{Op: api.LLoad, Array: 1, Step: 1, Plus: -1},
			{Op: api.LOp + api.OpMul, A: ref(2, 0), B: ref(5, 1)},
			{Op: api.LStore, A: ref(3, 2), Array: 1, Step: -1, Plus: 2},
			{Op: api.LOp + api.OpSub, A: ref(1, 0), B: ref(0, 3)},
		},
		Outs: []int{0, 1, 2, 3, 4, 5},
	}
}

func sampleState() api.State {
	return api.State{
		Before: [][]int64{{10, 11, 12}, {20, 21, 22}, {30, 31, 32}, {40, 41, 42}, {50, 51, 52}, {60, 61, 62}},
		Memory: [][]int64{{-5}, {1, 2, 3, 4}},
	}
}

func expectRun(t *testing.T, name string, l api.Loop, s api.State, turns int, want api.Result) {
	t.Helper()
	got, err := Run(l, s, turns)
	if err != api.OK || !same(got, want) {
		t.Errorf("%s: Run of %d turns = %v, %d, want %v", name, turns, got, err, want)
	}
}

func expectRefused(t *testing.T, name string, l api.Loop, s api.State, turns int, want api.Errno) {
	t.Helper()
	got, err := Run(l, s, turns)
	if err != want || len(got.Outs) != 0 || len(got.Memory) != 0 {
		t.Errorf("%s: Run of %d turns = %v, %d, want nothing, %d", name, turns, got, err, want)
	}
}

func same(a, b api.Result) bool {
	return slices.Equal(a.Outs, b.Outs) && slices.EqualFunc(a.Memory, b.Memory, slices.Equal[[]int64])
}

// outs are results of loops without arrays.
func outs(numbers ...int64) api.Result { return api.Result{Outs: numbers} }

func zeros(statements int) [][]int64 {
	before := make([][]int64, statements)
	for at := range before {
		before[at] = make([]int64, api.MaxBack)
	}
	return before
}

func TestRunByHand(t *testing.T) {
	l, s := sample(), sampleState()
	words := func(w ...int64) [][]int64 { return [][]int64{{-5}, w} }
	want := []api.Result{
		{Outs: []int64{10, 20, 30, 40, 50, 60}, Memory: words(1, 2, 3, 4)},
		// Loads word 3; 4 times 60; stores what lies 2 turns back, 41, to word 2; 0 less 12.
		{Outs: []int64{-7, 0, 4, 240, 41, -12}, Memory: words(1, 2, 41, 4)},
		// Loads word 0; 1 times -12; stores 40 to word 1; 1 less 11.
		{Outs: []int64{-7, 1, 1, -12, 40, -10}, Memory: words(1, 40, 41, 4)},
		// Loads word 1, as it was just stored; 40 times -10; stores 240 to word 0; 2 less 10.
		{Outs: []int64{-7, 2, 40, -400, 240, -8}, Memory: words(240, 40, 41, 4)},
		// Loads word 2; 41 times -8; stores -12 to word 3 (-1 counted from 0 on); 3 and 7.
		{Outs: []int64{-7, 3, 41, -328, -12, 10}, Memory: words(240, 40, 41, -12)},
		// Loads word 3, as it was just stored; -12 times 10; stores -400 to word 2; 4 and 7.
		{Outs: []int64{-7, 4, -12, -120, -400, 11}, Memory: words(240, 40, -400, -12)},
	}
	for turns, w := range want {
		expectRun(t, "the sample", l, s, turns, w)
	}
}

func TestRunOuts(t *testing.T) {
	l, s := sample(), sampleState()
	memory := [][]int64{{-5}, {1, 2, 41, 4}}
	for name, c := range map[string]struct{ outs, want []int64 }{
		"none":      {nil, nil},
		"the first": {[]int64{0}, []int64{-7}},
		"the last":  {[]int64{5}, []int64{-12}},
		"a few":     {[]int64{1, 3, 4}, []int64{0, 240, 41}},
	} {
		l.Outs = nil
		for _, at := range c.outs {
			l.Outs = append(l.Outs, int(at))
		}
		expectRun(t, name, l, s, 1, api.Result{Outs: c.want, Memory: memory})
	}
}

func TestRunEachOperation(t *testing.T) {
	want := []int64{-2, 14, -48, 0, -2, -2, 1, 0}
	for i, w := range want {
		l := api.Loop{
			Body: []api.Stmt{{Op: api.LConst, N: 6}, {Op: api.LConst, N: -8}, {Op: api.LOp + api.OpAdd + i, A: ref(0, 0), B: ref(1, 0)}},
			Outs: []int{2},
		}
		if i == api.OpLess-api.OpAdd {
			l.Body[2].A, l.Body[2].B = ref(1, 0), ref(0, 0)
		}
		expectRun(t, "an operation", l, api.State{Before: zeros(3)}, 1, outs(w))
	}
}

func TestRunConstants(t *testing.T) {
	for _, n := range []int64{math.MinInt64, -1, 0, 1, math.MaxInt64} {
		l := api.Loop{Body: []api.Stmt{{Op: api.LConst, N: n}}, Outs: []int{0}}
		expectRun(t, "a constant", l, api.State{Before: zeros(1)}, 3, outs(n))
	}
}

func TestRunHowManyTurns(t *testing.T) {
	// The last turn's number, and how many turns there were.
	l := api.Loop{
		Body: []api.Stmt{{Op: api.LTurn}, {Op: api.LConst, N: 1}, {Op: api.LOp + api.OpAdd, A: ref(1, 0), B: ref(2, 1)}},
		Outs: []int{0, 2},
	}
	s := api.State{Before: zeros(3)}
	s.Before[0][0] = -1
	for turns := range api.MaxTurns + 1 {
		expectRun(t, "turns within", l, s, turns, outs(int64(turns-1), int64(turns)))
	}
	for _, turns := range wild {
		expectRefused(t, "turns beyond", l, s, turns, api.ErrRange)
		expectRefused(t, "turns beyond, with arrays", sample(), sampleState(), turns, api.ErrRange)
	}
}

// What a Ref of each Back is, in the first turns: Before, from behind, and then what was come to.
func TestRunRefsAheadOfTheFirstTurn(t *testing.T) {
	past := []int64{102, 101, 100, 0, 1, 2, 3, 4, 5}
	for back := 1; back <= api.MaxBack; back++ {
		for at := range 3 {
			l := api.Loop{Body: slices.Repeat([]api.Stmt{{Op: api.LTurn}}, 3), Outs: []int{2}}
			l.Body[2] = api.Stmt{Op: api.LOp + api.OpOr, A: ref(at, back), B: ref(at, back)}
			s := api.State{Before: [][]int64{{100, 101, 102}, {100, 101, 102}, {100, 101, 102}}}
			for turns := 1; turns <= 6; turns++ {
				want := past[turns+2-back]
				if at == 2 {
					want = past[(turns-1)%back+3-back]
				}
				expectRun(t, "a ref", l, s, turns, outs(want))
			}
		}
	}
}

func TestRunRefsInTheSameTurn(t *testing.T) {
	// Each doubles the one ahead of it.
	l := api.Loop{Body: []api.Stmt{{Op: api.LTurn}}, Outs: []int{api.MaxBody - 1}}
	for at := 1; at < api.MaxBody; at++ {
		l.Body = append(l.Body, api.Stmt{Op: api.LOp + api.OpAdd, A: ref(at-1, 0), B: ref(at-1, 0)})
	}
	for turns := 1; turns <= api.MaxTurns; turns++ {
		expectRun(t, "a chain", l, api.State{Before: zeros(api.MaxBody)}, turns, outs(int64(turns-1)<<15))
	}
}

// A Ref of Back 1 looks at the turn just ahead, whether the statement stands below or above.
func TestRunRefsToStatementsBehind(t *testing.T) {
	l := api.Loop{
		Body: []api.Stmt{
			{Op: api.LOp + api.OpAdd, A: ref(2, 1), B: ref(1, 1)},
			{Op: api.LOp + api.OpAdd, A: ref(2, 1), B: ref(0, 0)},
			{Op: api.LTurn},
			{Op: api.LOp + api.OpSub, A: ref(1, 1), B: ref(0, 1)},
		},
		Outs: []int{0, 1, 3},
	}
	s := api.State{Before: [][]int64{{7, 0, 0}, {5, 0, 0}, {100, 0, 0}, {0, 0, 0}}}
	expectRun(t, "behind", l, s, 1, outs(105, 205, -2))
	expectRun(t, "behind", l, s, 2, outs(205, 205, 100))
	expectRun(t, "behind", l, s, 3, outs(206, 207, 0))
}

func TestRunStoresInOrder(t *testing.T) {
	l := api.Loop{
		Logs: []int{0},
		Body: []api.Stmt{
			{Op: api.LLoad}, // what the turn ahead left
			{Op: api.LConst, N: 5},
			{Op: api.LStore, A: ref(1, 0), Step: 3, Plus: 1},
			{Op: api.LLoad, Step: -64, Plus: 64},
			{Op: api.LTurn},
			{Op: api.LStore, A: ref(4, 0)},
		},
		Outs: []int{0, 2, 3, 5},
	}
	s := api.State{Before: zeros(6), Memory: [][]int64{{9}}}
	expectRun(t, "stores", l, s, 0, api.Result{Outs: []int64{0, 0, 0, 0}, Memory: [][]int64{{9}}})
	expectRun(t, "stores", l, s, 1, api.Result{Outs: []int64{9, 5, 5, 0}, Memory: [][]int64{{0}}})
	expectRun(t, "stores", l, s, 8, api.Result{Outs: []int64{6, 5, 5, 7}, Memory: [][]int64{{7}}})
}

// Each array has its own Log, and its own words.
func TestRunWordsOfEachArray(t *testing.T) {
	for log := range api.MaxLog + 1 {
		for array := range api.MaxArrays {
			l := api.Loop{Logs: []int{1, 1, 1}, Body: []api.Stmt{{Op: api.LTurn}, {Op: api.LStore, A: ref(0, 0), Array: array, Step: -1, Plus: -1}}}
			l.Logs[array] = log
			s := api.State{Before: zeros(2), Memory: [][]int64{{-1, -2}, {-3, -4}, {-5, -6}}}
			s.Memory[array] = make([]int64, 1<<log)
			want := api.Result{Memory: slices.Clone(s.Memory)}
			words := make([]int64, 1<<log)
			for i := range words {
				words[i] = int64(len(words) - 1 - i)
			}
			want.Memory[array] = words
			expectRun(t, "an array", l, s, 1<<log, want)
		}
	}
}

func TestRunRefusesForm(t *testing.T) {
	spoil := map[string]func(*api.Loop, *api.State){
		"no body":               func(l *api.Loop, s *api.State) { l.Body, l.Outs, s.Before = nil, nil, nil },
		"no such op":            func(l *api.Loop, s *api.State) { l.Body[1].Op = 0 },
		"no such operation":     func(l *api.Loop, s *api.State) { l.Body[3].Op = api.LOp + api.OpSame + 1 },
		"a field not named":     func(l *api.Loop, s *api.State) { l.Body[1].N = 1 },
		"a ref to itself":       func(l *api.Loop, s *api.State) { l.Body[3].A = ref(3, 0) },
		"a ref too far back":    func(l *api.Loop, s *api.State) { l.Body[3].A = ref(0, 4) },
		"a ref to none":         func(l *api.Loop, s *api.State) { l.Body[3].A = ref(6, 1) },
		"a ref below 0":         func(l *api.Loop, s *api.State) { l.Body[3].A = ref(-1, 1) },
		"no such array":         func(l *api.Loop, s *api.State) { l.Body[2].Array = 2 },
		"a step beyond":         func(l *api.Loop, s *api.State) { l.Body[2].Step = 65 },
		"a log beyond":          func(l *api.Loop, s *api.State) { l.Logs[0] = 6; s.Memory[0] = make([]int64, 64) },
		"a log below 0":         func(l *api.Loop, s *api.State) { l.Logs[0] = -1 },
		"outs not rising":       func(l *api.Loop, s *api.State) { l.Outs = []int{1, 1} },
		"outs beyond":           func(l *api.Loop, s *api.State) { l.Outs = []int{6} },
		"no state":              func(l *api.Loop, s *api.State) { *s = api.State{} },
		"too few in before":     func(l *api.Loop, s *api.State) { s.Before = s.Before[:5] },
		"too many in before":    func(l *api.Loop, s *api.State) { s.Before = append(s.Before, []int64{0, 0, 0}) },
		"a short before":        func(l *api.Loop, s *api.State) { s.Before[5] = s.Before[5][:2] },
		"a long before":         func(l *api.Loop, s *api.State) { s.Before[5] = append(s.Before[5], 0) },
		"too few arrays":        func(l *api.Loop, s *api.State) { s.Memory = s.Memory[:1] },
		"too many arrays":       func(l *api.Loop, s *api.State) { s.Memory = append(s.Memory, []int64{0}) },
		"a word too few":        func(l *api.Loop, s *api.State) { s.Memory[1] = s.Memory[1][:3] },
		"a word too many":       func(l *api.Loop, s *api.State) { s.Memory[1] = append(s.Memory[1], 0) },
		"words of other arrays": func(l *api.Loop, s *api.State) { s.Memory[0], s.Memory[1] = s.Memory[1], s.Memory[0] },
	}
	for name, change := range spoil {
		l, s := sample(), sampleState()
		change(&l, &s)
		// The form is told first, whatever the turns are.
		for _, turns := range append([]int{0, 1, 200}, wild...) {
			expectRefused(t, name, l, s, turns, api.ErrForm)
		}
	}
}

// told is another way to say what a loop does: each number is asked for backwards, from the turn that it is wanted in.
type told struct {
	l     api.Loop
	s     api.State
	known map[[2]int]int64
}

func (o told) came(at, turn int) int64 {
	if turn < 0 {
		return o.s.Before[at][-turn-1]
	}
	key := [2]int{at, turn}
	if n, ok := o.known[key]; ok {
		return n
	}
	s := o.l.Body[at]
	is := func(r api.Ref) int64 { return o.came(r.At, turn-r.Back) }
	var n int64
	switch s.Op {
	case api.LConst:
		n = s.N
	case api.LTurn:
		n = int64(turn)
	case api.LLoad:
		n = o.word(s.Array, o.index(s, turn), at-1, turn)
	case api.LStore:
		n = is(s.A)
	case api.LOp + api.OpAdd:
		n = is(s.A) + is(s.B)
	case api.LOp + api.OpSub:
		n = is(s.A) - is(s.B)
	case api.LOp + api.OpMul:
		n = is(s.A) * is(s.B)
	case api.LOp + api.OpAnd:
		n = is(s.A) & is(s.B)
	case api.LOp + api.OpOr:
		n = is(s.A) | is(s.B)
	case api.LOp + api.OpXor:
		n = is(s.A) ^ is(s.B)
	case api.LOp + api.OpLess:
		if is(s.A) < is(s.B) {
			n = 1
		}
	case api.LOp + api.OpSame:
		if is(s.A) == is(s.B) {
			n = 1
		}
	}
	o.known[key] = n
	return n
}

func (o told) index(s api.Stmt, turn int) int {
	size := len(o.s.Memory[s.Array])
	return ((s.Step*turn+s.Plus)%size + size) % size
}

// word is what the last store up to the statement at of that turn left there.
func (o told) word(array, i, at, turn int) int64 {
	for ; turn >= 0; turn, at = turn-1, len(o.l.Body)-1 {
		for ; at >= 0; at-- {
			s := o.l.Body[at]
			if s.Op == api.LStore && s.Array == array && o.index(s, turn) == i {
				return o.came(at, turn)
			}
		}
	}
	return o.s.Memory[array][i]
}

func (o told) result(turns int) api.Result {
	r := api.Result{}
	for _, at := range o.l.Outs {
		r.Outs = append(r.Outs, o.came(at, turns-1))
	}
	for array, words := range o.s.Memory {
		r.Memory = append(r.Memory, nil)
		for i := range words {
			r.Memory[array] = append(r.Memory[array], o.word(array, i, len(o.l.Body)-1, turns-1))
		}
	}
	return r
}

func anyRef(g *rand.Rand, at, body int) api.Ref {
	if at > 0 && g.Intn(2) == 0 {
		return ref(g.Intn(at), 0)
	}
	return ref(g.Intn(body), 1+g.Intn(api.MaxBack))
}

func anyStmt(g *rand.Rand, at, body, arrays int) api.Stmt {
	ops := []int{api.LConst, api.LTurn}
	for op := api.OpAdd; op <= api.OpSame; op++ {
		ops = append(ops, api.LOp+op)
	}
	if arrays > 0 {
		ops = append(ops, api.LLoad, api.LLoad, api.LLoad, api.LStore, api.LStore, api.LStore)
	}
	s := api.Stmt{Op: ops[g.Intn(len(ops))]}
	if s.Op == api.LConst {
		s.N = int64(g.Uint64()) >> g.Intn(64)
	}
	if s.Op == api.LLoad || s.Op == api.LStore {
		s.Array, s.Step, s.Plus = g.Intn(arrays), g.Intn(129)-64, g.Intn(129)-64
	}
	if s.Op == api.LStore || s.Op > api.LOp {
		s.A = anyRef(g, at, body)
	}
	if s.Op > api.LOp {
		s.B = anyRef(g, at, body)
	}
	return s
}

func anyLoop(g *rand.Rand) (api.Loop, api.State) {
	l, s := api.Loop{}, api.State{}
	for range g.Intn(api.MaxArrays + 1) {
		l.Logs = append(l.Logs, g.Intn(api.MaxLog+1))
	}
	body := 1 + g.Intn(api.MaxBody)
	for at := range body {
		l.Body = append(l.Body, anyStmt(g, at, body, len(l.Logs)))
		if g.Intn(2) == 0 {
			l.Outs = append(l.Outs, at)
		}
		s.Before = append(s.Before, anyWords(g, api.MaxBack))
	}
	for _, log := range l.Logs {
		s.Memory = append(s.Memory, anyWords(g, 1<<log))
	}
	return l, s
}

func anyWords(g *rand.Rand, n int) []int64 {
	words := []int64{}
	for range n {
		words = append(words, int64(g.Uint64())>>g.Intn(64))
	}
	return words
}

func TestRunAsToldBackwards(t *testing.T) {
	for seed := range int64(1500) {
		g := rand.New(rand.NewSource(seed))
		l, s := anyLoop(g)
		if !loop.Fits(l, s) {
			t.Fatalf("no loop to try: %+v %+v", l, s)
		}
		turns := []int{0, 1, 2, 3, 4, 5, g.Intn(40), g.Intn(api.MaxTurns + 1)}[g.Intn(8)]
		o := told{l, s, map[[2]int]int64{}}
		expectRun(t, "any loop", l, s, turns, o.result(turns))
	}
}

// behind lays list at the beginning of a longer one, so that more stands behind its length.
func behind[T any](list []T, more ...T) []T {
	return slices.Concat(list, more)[:len(list)]
}

// past is what stands behind a list's length.
func past[T any](list []T) []T { return list[len(list):cap(list)] }

func TestRunReadsAndWritesNothingBehindALength(t *testing.T) {
	l, s := sample(), sampleState()
	want, _ := Run(l, s, 9)
	l.Logs = behind(l.Logs, 3)
	l.Body = behind(l.Body, api.Stmt{Op: api.LTurn})
	l.Outs = behind(l.Outs, 2)
	s.Before, s.Memory = behind(s.Before, []int64{8}), behind(s.Memory, []int64{8})
	for i := range s.Before {
		s.Before[i] = behind(s.Before[i], 77, 78, 79, 80)
	}
	for i := range s.Memory {
		s.Memory[i] = behind(s.Memory[i], 77, 78, 79, 80)
	}
	expectRun(t, "more behind the lengths", l, s, 9, want)
	for _, list := range slices.Concat(s.Before, s.Memory) {
		if !slices.Equal(past(list)[:4], []int64{77, 78, 79, 80}) {
			t.Errorf("written behind the length: %v", past(list))
		}
	}
}

func TestRunLeavesItsArguments(t *testing.T) {
	for _, turns := range []int{-1, 0, 1, 200} {
		l, s := sample(), sampleState()
		Run(l, s, turns)
		if !reflect.DeepEqual(l, sample()) || !reflect.DeepEqual(s, sampleState()) {
			t.Errorf("changed by %d turns: %+v %+v", turns, l, s)
		}
	}
}

// fill overwrites a list to the end of what it may grow to.
func fill(list []int64) {
	for i := range list[:cap(list)] {
		list[:cap(list)][i] = 99
	}
}

func TestRunAnswersNewMemory(t *testing.T) {
	for _, turns := range []int{0, 1, 7} {
		l, s := sample(), sampleState()
		first, _ := Run(l, s, turns)
		again, _ := Run(l, s, turns)
		lists := append(slices.Clone(again.Memory), again.Outs)
		for i, list := range lists {
			kept := [][]int64{}
			for _, other := range lists {
				kept = append(kept, slices.Clone(other))
			}
			fill(list)
			for j, other := range lists {
				if i != j && !slices.Equal(other, kept[j]) {
					t.Errorf("lists %d and %d share memory", i, j)
				}
			}
		}
		if !reflect.DeepEqual(s, sampleState()) {
			t.Errorf("the state is shared: %+v", s)
		}
		expectRun(t, "once more", l, s, turns, first)
	}
}

// Arrays that are handed in as one and the same list are still two arrays.
func TestRunArraysHandedInTogether(t *testing.T) {
	l := api.Loop{
		Logs: []int{0, 0},
		Body: []api.Stmt{{Op: api.LConst, N: 5}, {Op: api.LStore, A: ref(0, 0)}, {Op: api.LLoad, Array: 1}},
		Outs: []int{2},
	}
	words := []int64{3}
	s := api.State{Before: zeros(3), Memory: [][]int64{words, words}}
	expectRun(t, "one list twice", l, s, 2, api.Result{Outs: []int64{3}, Memory: [][]int64{{5}, {3}}})
}
