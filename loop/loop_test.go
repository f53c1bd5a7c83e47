package loop

import (
	"math"
	"reflect"
	"slices"
	"strconv"
	"testing"

	"roundelay/api"
)

// wild are ints that no limit takes in.
var wild = []int{math.MinInt, math.MinInt + 1, math.MinInt32, -256, 256, 1 << 16, math.MaxInt32, 1 << 32, math.MaxInt - 1, math.MaxInt}

// sample has a statement of each kind; each looks back or ahead where it may.
func sample() api.Loop {
	return api.Loop{
		Logs: []int{0, 3, 5},
		Body: []api.Stmt{
			{Op: api.LConst, N: -7},
			{Op: api.LTurn},
			{Op: api.LLoad, Array: 1, Step: 2, Plus: -1},
			{Op: api.LOp + api.OpMul, A: api.Ref{At: 2}, B: api.Ref{At: 4, Back: 1}},
			{Op: api.LStore, A: api.Ref{At: 3}, Array: 2, Step: -1, Plus: 5},
			{Op: api.LOp + api.OpLess, A: api.Ref{At: 5, Back: 3}, B: api.Ref{At: 0}},
		},
		Outs: []int{0, 3, 5},
	}
}

// stateOf makes a state with as many numbers as l asks for.
func stateOf(l api.Loop) api.State {
	s := api.State{}
	for range l.Body {
		s.Before = append(s.Before, make([]int64, api.MaxBack))
	}
	for _, log := range l.Logs {
		s.Memory = append(s.Memory, make([]int64, int(math.Pow(2, float64(log)))))
	}
	return s
}

func constants(n int) []api.Stmt {
	return slices.Repeat([]api.Stmt{{Op: api.LConst}}, n)
}

func expectMay(t *testing.T, name string, l api.Loop, want bool) {
	t.Helper()
	if got := May(l); got != want {
		t.Errorf("%s: May = %v, want %v: %+v", name, got, want, l)
	}
}

// expectStmt puts s where the statement at stands in the sample.
func expectStmt(t *testing.T, name string, at int, s api.Stmt, want bool) {
	t.Helper()
	l := sample()
	l.Body[at] = s
	expectMay(t, name, l, want)
}

// beyond are numbers just outside of low to high, and far outside.
func beyond(low, high int) []int {
	return append([]int{low - 1, low - 2, high + 1, high + 2}, wild...)
}

func TestMayOrdinary(t *testing.T) {
	expectMay(t, "a statement of each kind", sample(), true)
	expectMay(t, "the least of all loops", api.Loop{Body: []api.Stmt{{Op: api.LTurn}}}, true)
	expectMay(t, "lists that are empty, not nil", api.Loop{Logs: []int{}, Body: constants(1), Outs: []int{}}, true)
	expectMay(t, "no loop at all", api.Loop{}, false)
}

func TestMayLogs(t *testing.T) {
	for n := range 10 {
		l := sample()
		l.Logs = make([]int, n)
		l.Body = constants(6)
		expectMay(t, strconv.Itoa(n)+" logs", l, n <= api.MaxArrays)
	}
	for at := range api.MaxArrays {
		for log := range api.MaxLog + 1 {
			l := sample()
			l.Logs[at] = log
			expectMay(t, "a log within", l, true)
		}
		for _, log := range append(beyond(0, api.MaxLog), 31, 62, 63, 64) {
			l := sample()
			l.Logs[at] = log
			expectMay(t, "a log beyond", l, false)
		}
	}
}

func TestMayHowManyStatements(t *testing.T) {
	for n := range 2*api.MaxBody + 2 {
		expectMay(t, strconv.Itoa(n)+" statements", api.Loop{Body: constants(n)}, 1 <= n && n <= api.MaxBody)
	}
}

func TestMayOuts(t *testing.T) {
	all := []int{}
	for i := range api.MaxBody {
		all = append(all, i)
	}
	cases := []struct {
		name string
		body int
		outs []int
		want bool
	}{
		{"the first alone", 3, []int{0}, true},
		{"the last alone", 3, []int{2}, true},
		{"all of a few", 3, []int{0, 1, 2}, true},
		{"all of the most", api.MaxBody, all, true},
		{"one beyond the last", 3, []int{3}, false},
		{"one beyond the last, of the most", api.MaxBody, append(all[1:api.MaxBody:api.MaxBody], api.MaxBody), false},
		{"one below 0", 3, []int{-1}, false},
		{"below 0 ahead of others", 3, []int{-1, 0, 1}, false},
		{"the same twice", 3, []int{1, 1}, false},
		{"0 twice", 3, []int{0, 0}, false},
		{"falling", 3, []int{2, 1}, false},
		{"rising, then falling", 3, []int{0, 2, 1}, false},
		{"the last beyond", 3, []int{0, 1, 3}, false},
		{"more than the most", api.MaxBody, append(slices.Clone(all), api.MaxBody), false},
		{"all of the most, one twice", api.MaxBody, append(slices.Clone(all), api.MaxBody-1), false},
	}
	for _, c := range cases {
		expectMay(t, c.name, api.Loop{Body: constants(c.body), Outs: c.outs}, c.want)
	}
	for _, out := range wild {
		expectMay(t, "an out far beyond", api.Loop{Body: constants(3), Outs: []int{out}}, false)
		expectMay(t, "an out far beyond, behind another", api.Loop{Body: constants(3), Outs: []int{0, out}}, false)
	}
}

func TestMayOps(t *testing.T) {
	// Each kind's own fields, such that they may be; of other ops no fields at all may be.
	fields := map[int]api.Stmt{api.LConst: {N: 1}, api.LTurn: {}, api.LLoad: {Step: 1}, api.LStore: {Step: 1}}
	for op := api.OpAdd; op <= api.OpSame; op++ {
		fields[api.LOp+op] = api.Stmt{B: api.Ref{At: 1}}
	}
	ops := append([]int{256 + api.LConst, 1<<16 + api.LTurn, 1<<32 + api.LTurn, math.MinInt + api.LTurn}, wild...)
	for op := -300; op <= 300; op++ {
		ops = append(ops, op)
	}
	for _, op := range ops {
		s, want := fields[op]
		s.Op = op
		expectStmt(t, "op "+strconv.Itoa(op), 2, s, want)
		for other, s := range fields {
			if s.Op = op; other != op && !want {
				expectStmt(t, "no op, with fields of another", 2, s, false)
			}
		}
	}
}

func TestMayFieldsThatAreNotNamed(t *testing.T) {
	spoil := map[string]func(s *api.Stmt, n int){
		"A.At":   func(s *api.Stmt, n int) { s.A.At = n },
		"A.Back": func(s *api.Stmt, n int) { s.A.Back = n },
		"B.At":   func(s *api.Stmt, n int) { s.B.At = n },
		"B.Back": func(s *api.Stmt, n int) { s.B.Back = n },
		"Array":  func(s *api.Stmt, n int) { s.Array = n },
		"Step":   func(s *api.Stmt, n int) { s.Step = n },
		"Plus":   func(s *api.Stmt, n int) { s.Plus = n },
		"N":      func(s *api.Stmt, n int) { s.N = int64(n) },
	}
	word := []string{"Array", "Step", "Plus"}
	a, b := []string{"A.At", "A.Back"}, []string{"B.At", "B.Back"}
	named := map[int][]string{0: {"N"}, 1: {}, 2: word, 3: slices.Concat(a, b), 4: slices.Concat(a, word), 5: slices.Concat(a, b)}
	for at, own := range named {
		for field, set := range spoil {
			for _, n := range append([]int{1, -1, 2}, wild...) {
				s := sample().Body[at]
				set(&s, n)
				if !slices.Contains(own, field) {
					expectStmt(t, field+" of one that has no such field", at, s, false)
				}
			}
		}
	}
}

func TestMayAnyConstant(t *testing.T) {
	for _, n := range []int64{math.MinInt64, math.MinInt32, -1, 0, 1, math.MaxInt32, math.MaxInt64} {
		expectStmt(t, "a constant", 0, api.Stmt{Op: api.LConst, N: n}, true)
	}
}

func TestMayWords(t *testing.T) {
	for _, at := range []int{2, 4} {
		s := sample().Body[at]
		for array := range api.MaxArrays {
			s.Array = array
			expectStmt(t, "an array that there is", at, s, true)
			fewer := api.Loop{Logs: sample().Logs[:array], Body: []api.Stmt{{Op: api.LTurn}, {Op: s.Op, Array: array}}}
			expectMay(t, "the array just behind those that there are", fewer, false)
			fewer.Logs = sample().Logs[:array+1]
			expectMay(t, "the last array that there is", fewer, true)
		}
		for _, array := range beyond(0, api.MaxArrays-1) {
			s.Array = array
			expectStmt(t, "an array that there isn't", at, s, false)
		}
		s.Array = 0
		for n := -api.MaxStep; n <= api.MaxStep; n++ {
			s.Step, s.Plus = n, -n
			expectStmt(t, "step and plus within", at, s, true)
		}
		for _, n := range beyond(-api.MaxStep, api.MaxStep) {
			s.Step, s.Plus = n, 0
			expectStmt(t, "step beyond", at, s, false)
			s.Step, s.Plus = 0, n
			expectStmt(t, "plus beyond", at, s, false)
		}
	}
}

// refUsers are statements that look at r, each in one of its fields.
func refUsers(r api.Ref) []api.Stmt {
	fine := api.Ref{At: 0, Back: 1}
	return []api.Stmt{
		{Op: api.LStore, A: r},
		{Op: api.LOp + api.OpAdd, A: r, B: fine},
		{Op: api.LOp + api.OpSame, A: fine, B: r},
	}
}

func TestMayRefs(t *testing.T) {
	const body = 5
	numbers := append([]int{-2, -1, 0, 1, 2, 3, 4, 5, 6}, wild...)
	for at := range body {
		for _, to := range numbers {
			for _, back := range numbers {
				want := 0 <= to && to < body && 1 <= back && back <= 3 || 0 <= to && to < at && back == 0
				for _, s := range refUsers(api.Ref{At: to, Back: back}) {
					l := api.Loop{Logs: []int{1}, Body: constants(body)}
					l.Body[at] = s
					expectMay(t, "a ref of "+strconv.Itoa(at), l, want)
				}
			}
		}
	}
}

func TestMayRefsOfTheMostStatements(t *testing.T) {
	last := api.MaxBody - 1
	for _, s := range refUsers(api.Ref{At: last, Back: api.MaxBack}) {
		l := api.Loop{Logs: []int{5}, Body: constants(api.MaxBody)}
		l.Body[0] = s
		expectMay(t, "the first looks at the last", l, true)
	}
	for _, s := range refUsers(api.Ref{At: last - 1}) {
		l := api.Loop{Logs: []int{5}, Body: constants(api.MaxBody)}
		l.Body[last] = s
		expectMay(t, "the last looks at the one ahead of it", l, true)
	}
}

func TestMayWhereverTheFaultStands(t *testing.T) {
	for at := range api.MaxBody {
		l := api.Loop{Body: constants(api.MaxBody)}
		l.Body[at].Op = 0
		expectMay(t, "no statement at "+strconv.Itoa(at), l, false)
	}
}

func expectFits(t *testing.T, name string, l api.Loop, s api.State, want bool) {
	t.Helper()
	if got := Fits(l, s); got != want {
		t.Errorf("%s: Fits = %v, want %v: %+v %+v", name, got, want, l, s)
	}
}

func TestFitsOrdinary(t *testing.T) {
	l := sample()
	expectFits(t, "what it asks for", l, stateOf(l), true)
	expectFits(t, "an empty state", l, api.State{}, false)
	least := api.Loop{Body: constants(1)}
	expectFits(t, "no arrays", least, api.State{Before: [][]int64{{1, 2, 3}}}, true)
	expectFits(t, "no arrays, not nil", least, api.State{Before: [][]int64{{1, 2, 3}}, Memory: [][]int64{}}, true)
	expectFits(t, "an empty array where there are none", least, api.State{Before: [][]int64{{1, 2, 3}}, Memory: [][]int64{{}}}, false)
	wildest := api.State{Before: [][]int64{{math.MinInt64, -1, math.MaxInt64}}}
	expectFits(t, "any numbers", least, wildest, true)
}

func TestFitsAllLogs(t *testing.T) {
	for log := range api.MaxLog + 1 {
		for words := range 2<<api.MaxLog + 2 {
			l := api.Loop{Logs: []int{2, log}, Body: constants(2)}
			s := stateOf(l)
			s.Memory[1] = make([]int64, words)
			want := words == []int{1, 2, 4, 8, 16, 32}[log]
			expectFits(t, strconv.Itoa(words)+" words of log "+strconv.Itoa(log), l, s, want)
		}
	}
}

func TestFitsOnlyLoopsThatMayBe(t *testing.T) {
	expectFits(t, "no loop, no state", api.Loop{}, api.State{}, false)
	l := sample()
	l.Outs = []int{1, 1}
	expectFits(t, "outs that do not rise", l, stateOf(l), false)
	l = sample()
	l.Body[1].N = 1
	expectFits(t, "a field that is not named", l, stateOf(l), false)
	l = api.Loop{Body: constants(api.MaxBody + 1)}
	expectFits(t, "too many statements", l, stateOf(l), false)
	l = api.Loop{Logs: []int{0, 0, 0, 0}, Body: constants(1)}
	expectFits(t, "too many arrays", l, stateOf(l), false)
	l = api.Loop{Logs: []int{api.MaxLog + 1}, Body: constants(1)}
	expectFits(t, "a log beyond", l, stateOf(l), false)
	for _, log := range beyond(0, api.MaxLog) {
		l := api.Loop{Logs: []int{log}, Body: constants(1)}
		expectFits(t, "a log far beyond", l, api.State{Before: [][]int64{{0, 0, 0}}, Memory: [][]int64{{}}}, false)
	}
}

func TestFitsHowManyLists(t *testing.T) {
	l := sample()
	for n := range 2 * api.MaxBody {
		s := stateOf(l)
		s.Before = slices.Repeat([][]int64{{0, 0, 0}}, n)
		expectFits(t, strconv.Itoa(n)+" lists in Before", l, s, n == len(l.Body))
	}
	for n := range 10 {
		l := api.Loop{Logs: []int{1, 1}, Body: constants(3)}
		s := stateOf(l)
		s.Memory = slices.Repeat([][]int64{{0, 0}}, n)
		expectFits(t, strconv.Itoa(n)+" lists in Memory", l, s, n == len(l.Logs))
	}
}

func TestFitsHowManyNumbers(t *testing.T) {
	l := sample()
	for at := range l.Body {
		for n := range 9 {
			s := stateOf(l)
			s.Before[at] = make([]int64, n)
			expectFits(t, strconv.Itoa(n)+" numbers at "+strconv.Itoa(at), l, s, n == api.MaxBack)
		}
	}
	for at := range l.Logs {
		s := stateOf(l)
		s.Memory[at] = s.Memory[at][1:]
		expectFits(t, "a word too few at "+strconv.Itoa(at), l, s, false)
		s = stateOf(l)
		s.Memory[at] = append(s.Memory[at], 0)
		expectFits(t, "a word too many at "+strconv.Itoa(at), l, s, false)
	}
	s := stateOf(l)
	s.Memory[1], s.Memory[2] = s.Memory[2], s.Memory[1]
	expectFits(t, "words of another array", l, s, false)
}

// behind lays list at the beginning of a longer one, so that more stands behind its length.
func behind[T any](list []T, more ...T) []T {
	return slices.Concat(list, more)[:len(list)]
}

func TestNothingBehindALengthIsAsked(t *testing.T) {
	l := sample()
	s := stateOf(l)
	l.Logs = behind(l.Logs, -1)
	l.Body = behind(l.Body, api.Stmt{Op: -1})
	l.Outs = behind(l.Outs, 2)
	s.Before = behind(s.Before, nil)
	s.Before[0] = behind(s.Before[0], 9)
	s.Memory = behind(s.Memory, nil)
	s.Memory[2] = behind(s.Memory[2], 9)
	expectMay(t, "more behind the lengths", l, true)
	expectFits(t, "more behind the lengths", l, s, true)
	l.Outs = behind([]int{6}, 7)
	l.Body = behind(l.Body, api.Stmt{Op: api.LTurn})
	expectMay(t, "a statement behind the length", l, false)
	short := stateOf(sample())
	short.Before[0] = short.Before[0][:2]
	expectFits(t, "a number behind the length", sample(), short, false)
}

func TestArgumentsStayAsTheyAre(t *testing.T) {
	l := sample()
	s := stateOf(l)
	s.Before[3][1], s.Memory[2][31] = 5, 6
	wantLoop, wantState := sample(), stateOf(l)
	wantState.Before[3][1], wantState.Memory[2][31] = 5, 6
	if !May(l) || !Fits(l, s) {
		t.Error("the sample isn't taken")
	}
	if !reflect.DeepEqual(l, wantLoop) || !reflect.DeepEqual(s, wantState) {
		t.Errorf("changed: %+v %+v", l, s)
	}
}

func TestLooks(t *testing.T) {
	want := map[int]int{api.LStore: 1}
	for op := api.OpAdd; op <= api.OpSame; op++ {
		want[api.LOp+op] = 2
	}
	for op := -20; op <= 40; op++ {
		if got := Looks(op); got != want[op] {
			t.Errorf("Looks(%d) = %d, want %d", op, got, want[op])
		}
	}
	for _, op := range []int{math.MinInt, 1 << 32, 1<<32 + 11, math.MaxInt} {
		if got := Looks(op); got != 0 {
			t.Errorf("Looks(%d) = %d, want 0", op, got)
		}
	}
}

// Each Ref that a statement looks at may be one turn back, and each that it doesn't must be 0.
func TestLooksAsMayAsks(t *testing.T) {
	some := api.Ref{Back: 1}
	for op := -20; op <= 40; op++ {
		for refs := range 3 {
			l := api.Loop{Logs: []int{0}, Body: []api.Stmt{{Op: op}}}
			if refs > 0 {
				l.Body[0].A = some
			}
			if refs > 1 {
				l.Body[0].B = some
			}
			if May(l) && Looks(op) != refs {
				t.Errorf("an Op %d may be with %d Refs, but Looks = %d", op, refs, Looks(op))
			}
		}
	}
}
