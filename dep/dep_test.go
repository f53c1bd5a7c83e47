package dep

import (
	"fmt"
	"maps"
	"math"
	"math/rand"
	"reflect"
	"slices"
	"testing"

	"roundelay/api"
	"roundelay/loop"
	"roundelay/target"
)

// wild are ints that no limit takes in.
var wild = []int{math.MinInt, math.MinInt + 1, math.MinInt32, -256, 257, 1<<16 + 1, math.MaxInt32, 1<<32 + 1, math.MaxInt - 1, math.MaxInt}

// machine has waits that differ from each other, and from the 0 and 1 of words.
func machine() api.Target {
	return api.Target{Units: [3]int{2, 1, 1}, Wait: [3]int{2, 5, 3}, Regs: 32}
}

// four is an edge: From, To, Back, Wait, in the order by which edges rise.
type four [4]int

func fours(edges []api.Edge) []four {
	all := []four{}
	for _, e := range edges {
		all = append(all, four{e.From, e.To, e.Back, e.Wait})
	}
	return all
}

func compareFours(a, b four) int { return slices.Compare(a[:], b[:]) }

func ref(at, back int) api.Ref { return api.Ref{At: at, Back: back} }

func add(a, b api.Ref) api.Stmt { return api.Stmt{Op: api.LOp + api.OpAdd, A: a, B: b} }

func load(step, plus int) api.Stmt { return api.Stmt{Op: api.LLoad, Step: step, Plus: plus} }

func store(step, plus int, a api.Ref) api.Stmt {
	return api.Stmt{Op: api.LStore, Step: step, Plus: plus, A: a}
}

// aside puts a statement at the end and has all stores look at it alone, so that every edge that isn't from it is one of words.
func aside(body ...api.Stmt) []api.Stmt {
	last := len(body)
	for i := range body {
		if body[i].Op == api.LStore {
			body[i].A = ref(last, 3)
		}
	}
	return append(body, api.Stmt{Op: api.LConst})
}

// ofWords leaves out the edges from the statement that aside has put.
func ofWords(edges []four, last int) []four {
	return slices.DeleteFunc(edges, func(e four) bool { return e[0] == last })
}

func edgesOf(t *testing.T, name string, l api.Loop, m api.Target) []four {
	t.Helper()
	edges, code := Edges(l, m)
	if code != api.OK {
		t.Fatalf("%s: code %d of %+v, %+v", name, code, l, m)
	}
	return fours(edges)
}

func expectEdges(t *testing.T, name string, l api.Loop, m api.Target, want ...four) {
	t.Helper()
	if got := edgesOf(t, name, l, m); !slices.Equal(got, want) {
		t.Errorf("%s: edges\n%v, want\n%v: %+v", name, got, want, l)
	}
}

// expectWords asks for edges of words alone, of statements at one array.
func expectWords(t *testing.T, name string, log int, body []api.Stmt, want ...four) {
	t.Helper()
	l := api.Loop{Logs: []int{log}, Body: aside(slices.Clone(body)...)}
	if got := ofWords(edgesOf(t, name, l, machine()), len(body)); !slices.Equal(got, want) {
		t.Errorf("%s: edges\n%v, want\n%v: %+v", name, got, want, l)
	}
}

func expectRefused(t *testing.T, name string, l api.Loop, m api.Target) {
	t.Helper()
	if edges, code := Edges(l, m); code != api.ErrForm || len(edges) != 0 {
		t.Errorf("%s: %+v, code %d, want none and ErrForm", name, edges, code)
	}
}

func TestLimits(t *testing.T) {
	if api.MaxBody != 16 || api.MaxArrays != 3 || api.MaxLog != 5 || api.MaxBack != 3 || api.MaxStep != 64 || api.MaxWait != 6 {
		t.Error("the limits are others than those that these tests were written for")
	}
}

func TestEdgesWithout(t *testing.T) {
	expectEdges(t, "a constant", api.Loop{Body: []api.Stmt{{Op: api.LConst, N: 5}}}, machine())
	expectEdges(t, "a turn, told at the end", api.Loop{Body: []api.Stmt{{Op: api.LTurn}}, Outs: []int{0}}, machine())
	expectEdges(t, "loads alone", api.Loop{Logs: []int{0}, Body: []api.Stmt{load(0, 0), load(0, 0), load(1, 1)}}, machine())
	expectEdges(t, "the most statements that look at nothing", api.Loop{Body: slices.Repeat([]api.Stmt{{Op: api.LTurn}}, api.MaxBody)}, machine())
}

func TestEdgesOfRefs(t *testing.T) {
	turn := api.Stmt{Op: api.LTurn}
	cases := []struct {
		name string
		body []api.Stmt
		want []four
	}{
		{"A and B of two", []api.Stmt{turn, turn, add(ref(0, 0), ref(1, 0))}, []four{{0, 2, 0, 2}, {1, 2, 0, 2}}},
		{"A and B the other way round", []api.Stmt{turn, turn, add(ref(1, 0), ref(0, 0))}, []four{{0, 2, 0, 2}, {1, 2, 0, 2}}},
		{"A and B the same", []api.Stmt{turn, add(ref(0, 0), ref(0, 0))}, []four{{0, 1, 0, 2}}},
		{"A and B of one, of two turns", []api.Stmt{turn, add(ref(0, 2), ref(0, 0))}, []four{{0, 1, 0, 2}, {0, 1, 2, 2}}},
		{"itself", []api.Stmt{add(ref(0, 1), ref(0, 1))}, []four{{0, 0, 1, 2}}},
		{"itself, as far back as may be", []api.Stmt{add(ref(0, 3), ref(0, 1))}, []four{{0, 0, 1, 2}, {0, 0, 3, 2}}},
		{"what stands behind", []api.Stmt{add(ref(1, 1), ref(2, 2)), turn, turn}, []four{{1, 0, 1, 2}, {2, 0, 2, 2}}},
		{"each other", []api.Stmt{add(ref(1, 1), ref(1, 1)), add(ref(0, 0), ref(0, 0))}, []four{{0, 1, 0, 2}, {1, 0, 1, 2}}},
		{"a product's wait", []api.Stmt{{Op: api.LOp + api.OpMul, A: ref(1, 1), B: ref(0, 1)}, add(ref(0, 0), ref(1, 1))},
			[]four{{0, 0, 1, 5}, {0, 1, 0, 5}, {1, 0, 1, 2}, {1, 1, 1, 2}}},
	}
	for _, c := range cases {
		expectEdges(t, c.name, api.Loop{Body: c.body}, machine(), c.want...)
	}
}

// The wait is that of From's Op, whatever To's is; and each Op looks at the Refs that are its own.
func TestEdgesOfRefsOfEachOp(t *testing.T) {
	from := map[int]api.Stmt{api.LConst: {N: 1}, api.LTurn: {}, api.LLoad: {Array: 0}, api.LStore: {Array: 0, A: ref(1, 1)}}
	waits := map[int]int{api.LConst: 2, api.LTurn: 2, api.LLoad: 3, api.LStore: 3, api.LOp + api.OpMul: 5}
	for op := api.OpAdd; op <= api.OpSame; op++ {
		from[api.LOp+op] = api.Stmt{A: ref(1, 1), B: ref(1, 2)}
		if op != api.OpMul {
			waits[api.LOp+op] = 2
		}
	}
	for op, f := range from {
		f.Op = op
		for user, u := range map[int]api.Stmt{api.LStore: {Array: 1, A: ref(0, 0)}, api.LOp + api.OpSub: {A: ref(0, 0), B: ref(0, 1)}, api.LOp + api.OpMul: {A: ref(0, 2), B: ref(0, 0)}} {
			u.Op = user
			name := fmt.Sprintf("op %d, at which %d looks", op, user)
			l := api.Loop{Logs: []int{2, 2}, Body: []api.Stmt{f, u}}
			// Of stores of no step there is the edge to themselves, a turn on, too.
			expectEdges(t, name, l, machine(), oracle(l, machine())...)
			if got := edgesOf(t, name, l, machine()); !slices.Contains(got, four{0, 1, 0, waits[op]}) {
				t.Errorf("%s: no wait of %d in %+v", name, waits[op], got)
			}
		}
	}
}

func TestEdgesHaveTheMachinesWaits(t *testing.T) {
	for w := 1; w <= api.MaxWait; w++ {
		for x := 1; x <= api.MaxWait; x++ {
			m := machine()
			m.Wait = [3]int{w, x, 7 - w}
			l := api.Loop{Logs: []int{1}, Body: []api.Stmt{
				{Op: api.LTurn}, {Op: api.LOp + api.OpMul, A: ref(0, 0), B: ref(2, 1)}, load(0, 0), {Op: api.LOp + api.OpOr, A: ref(1, 0), B: ref(1, 0)},
			}}
			expectEdges(t, "waits", l, m, four{0, 1, 0, w}, four{1, 3, 0, x}, four{2, 1, 1, 7 - w})
		}
	}
}

func TestEdgesOfWords(t *testing.T) {
	none := api.Ref{}
	st := func(step, plus int) api.Stmt { return store(step, plus, none) }
	cases := []struct {
		name string
		log  int
		body []api.Stmt
		want []four
	}{
		{"a load, and a store two words on", 3, []api.Stmt{load(1, 0), st(1, 2)},
			[]four{{0, 1, 6, 0}, {1, 0, 2, 1}, {1, 1, 8, 1}}},
		{"a store ahead of a load of the same word", 3, []api.Stmt{st(1, 0), load(1, 0)},
			[]four{{0, 0, 8, 1}, {0, 1, 0, 1}, {1, 0, 8, 0}}},
		{"a load ahead of a store of the same word", 3, []api.Stmt{load(1, 0), st(1, 0)},
			[]four{{0, 1, 0, 0}, {1, 0, 8, 1}, {1, 1, 8, 1}}},
		{"two stores", 3, []api.Stmt{st(1, 0), st(1, 1)},
			[]four{{0, 0, 8, 1}, {0, 1, 7, 1}, {1, 0, 1, 1}, {1, 1, 8, 1}}},
		{"a store of one word always", 3, []api.Stmt{st(0, 5)}, []four{{0, 0, 1, 1}}},
		{"a store of each other word", 3, []api.Stmt{st(2, 0)}, []four{{0, 0, 4, 1}}},
		{"a store of two words by turns", 3, []api.Stmt{st(4, 0)}, []four{{0, 0, 2, 1}}},
		{"a step of the length", 3, []api.Stmt{st(8, 0)}, []four{{0, 0, 1, 1}}},
		{"an odd step", 3, []api.Stmt{st(3, 0)}, []four{{0, 0, 8, 1}}},
		{"a step backwards", 3, []api.Stmt{st(-1, 0)}, []four{{0, 0, 8, 1}}},
		{"even and odd words never meet", 3, []api.Stmt{st(2, 0), load(2, 1)}, []four{{0, 0, 4, 1}}},
		{"two words that never meet", 3, []api.Stmt{st(0, 2), load(0, 3)}, []four{{0, 0, 1, 1}}},
		{"words that are the same but for the length", 3, []api.Stmt{st(0, -6), load(0, 2)},
			[]four{{0, 0, 1, 1}, {0, 1, 0, 1}, {1, 0, 1, 0}}},
		{"steps that differ by an odd number always meet", 3, []api.Stmt{st(1, 0), load(2, 5)},
			[]four{{0, 0, 8, 1}, {0, 1, 0, 1}, {1, 0, 1, 0}}},
		{"a word that stands still and one that goes round", 3, []api.Stmt{load(0, 6), st(1, 0)},
			[]four{{0, 1, 0, 0}, {1, 0, 1, 1}, {1, 1, 8, 1}}},
		{"one that goes round the other way", 3, []api.Stmt{load(-1, 1), st(1, 0)},
			[]four{{0, 1, 1, 0}, {1, 0, 1, 1}, {1, 1, 8, 1}}},
		{"one word alone", 0, []api.Stmt{load(7, -3), st(5, 64), load(0, 0)},
			[]four{{0, 1, 0, 0}, {1, 0, 1, 1}, {1, 1, 1, 1}, {1, 2, 0, 1}, {2, 1, 1, 0}}},
		{"the longest array", 5, []api.Stmt{st(1, 0), load(1, 1)},
			[]four{{0, 0, 32, 1}, {0, 1, 31, 1}, {1, 0, 1, 0}}},
		{"steps and words at their most", 5, []api.Stmt{st(64, -64), load(-64, 64), load(63, 64)},
			[]four{{0, 0, 1, 1}, {0, 1, 0, 1}, {0, 2, 0, 1}, {1, 0, 1, 0}, {2, 0, 1, 0}}},
	}
	for _, c := range cases {
		expectWords(t, c.name, c.log, c.body, c.want...)
	}
}

// Each array has its own words, and its own Log.
func TestEdgesOfEachArray(t *testing.T) {
	for a := range api.MaxArrays {
		for b := range api.MaxArrays {
			l := api.Loop{Logs: []int{1, 2, 5}, Body: aside(store(1, 0, ref(0, 0)), load(1, 1))}
			l.Body[0].Array, l.Body[1].Array = a, b
			n := 1 << l.Logs[a]
			want := []four{{0, 0, n, 1}}
			if a == b {
				want = append(want, four{0, 1, n - 1, 1}, four{1, 0, 1, 0})
			}
			if got := ofWords(edgesOf(t, "arrays", l, machine()), 2); !slices.Equal(got, want) {
				t.Errorf("arrays %d and %d: %+v, want %+v", a, b, got, want)
			}
		}
	}
}

// An edge of a result and one of a word are one, where all four numbers are the same, and else two.
func TestEdgesOfRefsAndWordsTogether(t *testing.T) {
	l := api.Loop{Logs: []int{1}, Body: []api.Stmt{store(1, 0, ref(0, 2)), store(1, 0, ref(0, 0))}}
	m := machine()
	expectEdges(t, "waits that differ", l, m, four{0, 0, 2, 1}, four{0, 0, 2, 3}, four{0, 1, 0, 1}, four{0, 1, 0, 3}, four{1, 0, 2, 1}, four{1, 1, 2, 1})
	m.Wait[api.ClassMemory] = 1
	expectEdges(t, "waits that are the same", l, m, four{0, 0, 2, 1}, four{0, 1, 0, 1}, four{1, 0, 2, 1}, four{1, 1, 2, 1})
	l.Body[0].A.Back, l.Body[1].A.Back = 1, 3
	expectEdges(t, "turns that differ", l, m, four{0, 0, 1, 1}, four{0, 0, 2, 1}, four{0, 1, 0, 1}, four{0, 1, 3, 1}, four{1, 0, 2, 1}, four{1, 1, 2, 1})
}

func TestEdgesOfTheMostStatements(t *testing.T) {
	// Each stores one word, and looks at itself, a turn back: 3 cycles there, 1 for the word.
	l := api.Loop{Logs: []int{0}}
	want := []four{}
	for from := range api.MaxBody {
		l.Body = append(l.Body, store(0, 0, ref(from, 1)))
		for to := range api.MaxBody {
			back := 1
			if from < to {
				back = 0
			}
			want = append(want, four{from, to, back, 1})
			if from == to {
				want = append(want, four{from, to, 1, 3})
			}
		}
	}
	expectEdges(t, "the most statements", l, machine(), want...)
}

// oracle tells edges by another way: whether two indexes ever meet is told by what divides their difference, not by going through turns.
func oracle(l api.Loop, m api.Target) []four {
	waits := map[int]int{api.LLoad: m.Wait[2], api.LStore: m.Wait[2], api.LOp + api.OpMul: m.Wait[1]}
	set := map[four]bool{}
	for to, s := range l.Body {
		look := func(r api.Ref) {
			wait, ok := waits[l.Body[r.At].Op]
			if !ok {
				wait = m.Wait[0]
			}
			set[four{r.At, to, r.Back, wait}] = true
		}
		if s.Op == api.LStore || s.Op > api.LOp {
			look(s.A)
		}
		if s.Op > api.LOp {
			look(s.B)
		}
		for from, f := range l.Body {
			if back := oracleBack(l, from, to); back >= 0 {
				set[four{from, to, back, f.Op - api.LLoad}] = true
			}
		}
	}
	return rising(set)
}

// oracleBack is -1, where there is no edge.
func oracleBack(l api.Loop, from, to int) int {
	f, s := l.Body[from], l.Body[to]
	kinds := [][2]int{{api.LLoad, api.LStore}, {api.LStore, api.LLoad}, {api.LStore, api.LStore}}
	if !slices.Contains(kinds, [2]int{f.Op, s.Op}) || f.Array != s.Array {
		return -1
	}
	words := int(math.Pow(2, float64(l.Logs[f.Array])))
	// Turn by turn the two indexes come nearer by the difference of the steps, round and round: over the turns, by every multiple of this.
	apart := divisor(f.Step-s.Step, words)
	back := 0
	if from >= to {
		back = 1
	}
	for ; back <= words; back++ {
		if (s.Plus+s.Step*back-f.Plus)%apart == 0 {
			return back
		}
	}
	return -1
}

// divisor is the greatest number that divides both.
func divisor(a, b int) int {
	for b != 0 {
		a, b = b, a%b
	}
	return max(a, -a)
}

func rising(set map[four]bool) []four {
	return slices.SortedFunc(maps.Keys(set), compareFours)
}

// Every two indexes there can be in arrays of up to 8 words, a store first and a load first.
func TestEdgesOfAllWordsOfShortArrays(t *testing.T) {
	for log := range 4 {
		n := 1 << log
		for i := range n * n * n * n {
			step, plus, otherStep, otherPlus := i%n, i/n%n, i/n/n%n, i/n/n/n
			l := api.Loop{Logs: []int{log}, Body: aside(store(step, plus, ref(0, 0)), load(otherStep, otherPlus), store(otherPlus, plus, ref(0, 0)))}
			expectEdges(t, "short arrays", l, machine(), oracle(l, machine())...)
		}
	}
}

// Every step and every plus, on its own, in the longest array.
func TestEdgesOfEachStepAndPlus(t *testing.T) {
	for step := -api.MaxStep; step <= api.MaxStep; step++ {
		for plus := -api.MaxStep; plus <= api.MaxStep; plus++ {
			l := api.Loop{Logs: []int{5}, Body: aside(load(step, plus), store(-3, 7, ref(0, 0)), load(plus, 11))}
			expectEdges(t, "each step", l, machine(), oracle(l, machine())...)
		}
	}
}

func anyRef(g *rand.Rand, at, body int) api.Ref {
	if at > 0 && g.Intn(2) == 0 {
		return ref(g.Intn(at), 0)
	}
	return ref(g.Intn(body), 1+g.Intn(api.MaxBack))
}

func anyStmt(g *rand.Rand, at, body, arrays int) api.Stmt {
	s := api.Stmt{Op: []int{api.LConst, api.LTurn, api.LOp + 1 + g.Intn(8), api.LOp + 1 + g.Intn(8)}[g.Intn(4)]}
	if arrays > 0 && g.Intn(3) > 0 {
		s = api.Stmt{Op: api.LLoad + g.Intn(2), Array: g.Intn(arrays), Step: g.Intn(129) - 64, Plus: g.Intn(129) - 64}
		if g.Intn(2) == 0 {
			s.Step = s.Step / 16 * 16
		}
	}
	if s.Op == api.LStore || s.Op > api.LOp {
		s.A = anyRef(g, at, body)
	}
	if s.Op > api.LOp {
		s.B = anyRef(g, at, body)
	}
	return s
}

func anyLoop(g *rand.Rand) api.Loop {
	l := api.Loop{}
	for range g.Intn(api.MaxArrays + 1) {
		l.Logs = append(l.Logs, g.Intn(api.MaxLog+1))
	}
	body := 1 + g.Intn(api.MaxBody)
	for at := range body {
		l.Body = append(l.Body, anyStmt(g, at, body, len(l.Logs)))
		if g.Intn(2) == 0 {
			l.Outs = append(l.Outs, at)
		}
	}
	return l
}

func anyMachine(g *rand.Rand) api.Target {
	m := api.Target{Regs: 1 + g.Intn(api.MaxRegs)}
	for class := range m.Units {
		m.Units[class], m.Wait[class] = 1+g.Intn(api.MaxUnits), 1+g.Intn(api.MaxWait)
	}
	return m
}

func eachLoop(t *testing.T, try func(l api.Loop, m api.Target)) {
	t.Helper()
	for seed := range int64(3000) {
		g := rand.New(rand.NewSource(seed))
		l, m := anyLoop(g), anyMachine(g)
		if !loop.May(l) || !target.May(m) {
			t.Fatalf("nothing to try: %+v %+v", l, m)
		}
		try(l, m)
	}
}

func TestEdgesAsTheOracleTells(t *testing.T) {
	eachLoop(t, func(l api.Loop, m api.Target) {
		expectEdges(t, "any loop", l, m, oracle(l, m)...)
	})
}

func TestEdgesRiseAndComeOnce(t *testing.T) {
	eachLoop(t, func(l api.Loop, m api.Target) {
		edges := edgesOf(t, "any loop", l, m)
		for i := 1; i < len(edges); i++ {
			if a, b := edges[i-1], edges[i]; compareFours(a, b) >= 0 {
				t.Fatalf("%v stands ahead of %v: %+v", a, b, l)
			}
		}
	})
}

// F2, and with it that turns can be done at all: what waits for its own turn stands behind.
func TestEdgesOfOneTurnGoOn(t *testing.T) {
	some := 0
	eachLoop(t, func(l api.Loop, m api.Target) {
		for _, e := range edgesOf(t, "any loop", l, m) {
			from, to, back := e[0], e[1], e[2]
			if back < 0 {
				t.Fatalf("an edge to a turn ahead: %v: %+v", e, l)
			}
			if back == 0 && from >= to {
				t.Fatalf("an edge of one turn that does not go on: %v: %+v", e, l)
			}
			if back == 0 {
				some++
			}
		}
	})
	if some == 0 {
		t.Error("no edge of one turn was tried")
	}
}

// place is where a loop is, turn by turn, at a word.
type place struct {
	turn, at int
	word     [2]int
	stores   bool
}

// places are all of so many turns, in their order, told without package num, and beyond MaxTurns too.
func places(l api.Loop, turns int) []place {
	all := []place{}
	for turn := range turns {
		for at, s := range l.Body {
			if s.Op == api.LLoad || s.Op == api.LStore {
				n := 1 << l.Logs[s.Array]
				all = append(all, place{turn, at, [2]int{s.Array, ((s.Step*turn+s.Plus)%n + n) % n}, s.Op == api.LStore})
			}
		}
	}
	return all
}

// What is at a word, and then something else, of which one stores: an edge keeps the two apart, also far on.
func TestEdgesCoverEveryWordThatIsShared(t *testing.T) {
	for seed := range int64(40) {
		g := rand.New(rand.NewSource(seed))
		l := anyLoop(g)
		back := map[[2]int]int{}
		for _, e := range edgesOf(t, "any loop", l, machine()) {
			// Results wait 2, 3 or 5 cycles on this machine, words 0 or 1.
			if from, to, wait := e[0], e[1], e[3]; wait < 2 {
				back[[2]int{from, to}] = e[2]
			}
		}
		all := places(l, 3*api.MaxTurns/2)
		for i, a := range all {
			for _, b := range all[i+1:] {
				if b.turn > a.turn+32 {
					break
				}
				least, ok := back[[2]int{a.at, b.at}]
				if a.word == b.word && (a.stores || b.stores) && (!ok || b.turn-a.turn < least) {
					t.Fatalf("%+v and then %+v: the edge is %d, %v: %+v", a, b, least, ok, l)
				}
			}
		}
	}
}

func sample() api.Loop {
	return api.Loop{
		Logs: []int{0, 3},
		Body: []api.Stmt{
			{Op: api.LConst, N: -7},
			{Op: api.LTurn},
			{Op: api.LLoad, Array: 1, Step: 2, Plus: -1},
			{Op: api.LOp + api.OpMul, A: ref(2, 0), B: ref(4, 1)},
			{Op: api.LStore, A: ref(3, 0), Array: 1, Step: -1, Plus: 5},
			{Op: api.LOp + api.OpLess, A: ref(5, 3), B: ref(0, 0)},
		},
		Outs: []int{0, 5},
	}
}

func TestEdgesRefuseLoops(t *testing.T) {
	spoil := map[string]func(*api.Loop){
		"no loop at all":     func(l *api.Loop) { *l = api.Loop{} },
		"no body":            func(l *api.Loop) { l.Body, l.Outs = nil, nil },
		"too many":           func(l *api.Loop) { l.Body = slices.Repeat([]api.Stmt{{Op: api.LTurn}}, 17) },
		"no such op":         func(l *api.Loop) { l.Body[1].Op = 0 },
		"no such operation":  func(l *api.Loop) { l.Body[3].Op = api.LOp + api.OpSame + 1 },
		"a field not named":  func(l *api.Loop) { l.Body[1].N = 1 },
		"a ref not named":    func(l *api.Loop) { l.Body[4].B = ref(1, 0) },
		"a ref to itself":    func(l *api.Loop) { l.Body[3].A = ref(3, 0) },
		"a ref on":           func(l *api.Loop) { l.Body[3].A = ref(4, 0) },
		"a ref too far back": func(l *api.Loop) { l.Body[3].A = ref(0, 4) },
		"a ref ahead":        func(l *api.Loop) { l.Body[3].A = ref(0, -1) },
		"a ref to none":      func(l *api.Loop) { l.Body[3].B = ref(6, 1) },
		"a ref below 0":      func(l *api.Loop) { l.Body[4].A = ref(-1, 1) },
		"no such array":      func(l *api.Loop) { l.Body[2].Array = 2 },
		"an array below 0":   func(l *api.Loop) { l.Body[2].Array = -1 },
		"a step beyond":      func(l *api.Loop) { l.Body[2].Step = 65 },
		"a plus beyond":      func(l *api.Loop) { l.Body[4].Plus = -65 },
		"a log beyond":       func(l *api.Loop) { l.Logs[0] = 6 },
		"a log below 0":      func(l *api.Loop) { l.Logs[1] = -1 },
		"no arrays":          func(l *api.Loop) { l.Logs = nil },
		"too many arrays":    func(l *api.Loop) { l.Logs = []int{0, 3, 0, 0} },
		"outs not rising":    func(l *api.Loop) { l.Outs = []int{1, 1} },
		"outs beyond":        func(l *api.Loop) { l.Outs = []int{6} },
	}
	for _, n := range wild {
		spoil[fmt.Sprint("wild ", n)] = func(l *api.Loop) {
			l.Logs[0], l.Body[2].Array, l.Body[3].A, l.Body[4].Step = n, n, ref(n, n), n
		}
		spoil[fmt.Sprint("a wild log ", n)] = func(l *api.Loop) { l.Logs[1] = n }
		spoil[fmt.Sprint("a wild ref ", n)] = func(l *api.Loop) { l.Body[3].A.At = n }
		spoil[fmt.Sprint("a wild back ", n)] = func(l *api.Loop) { l.Body[3].A.Back = n }
		spoil[fmt.Sprint("a wild array ", n)] = func(l *api.Loop) { l.Body[4].Array = n }
		spoil[fmt.Sprint("a wild op ", n)] = func(l *api.Loop) { l.Body[3].Op = n }
	}
	for name, change := range spoil {
		l := sample()
		change(&l)
		expectRefused(t, name, l, machine())
		expectRefused(t, name+", and no machine", l, api.Target{})
	}
}

func TestEdgesRefuseMachines(t *testing.T) {
	for class := range 3 {
		for _, n := range append([]int{-1, 0, 7}, wild...) {
			m := machine()
			m.Units[class] = n
			expectRefused(t, "units", sample(), m)
			m = machine()
			m.Wait[class] = n
			expectRefused(t, "waits", sample(), m)
		}
	}
	for _, n := range append([]int{-1, 0, 129}, wild...) {
		m := machine()
		m.Regs = n
		expectRefused(t, "registers", sample(), m)
	}
	expectRefused(t, "no machine at all", sample(), api.Target{})
	// Also of a loop without an edge, whose waits would not be asked for.
	expectRefused(t, "no machine, no edge", api.Loop{Body: []api.Stmt{{Op: api.LTurn}}}, api.Target{})
}

// behind lays list at the beginning of a longer one, so that more stands behind its length.
func behind[T any](list []T, more ...T) []T {
	return slices.Concat(list, more)[: len(list) : len(list)+len(more)]
}

func TestEdgesReadAndWriteNothingBehindALength(t *testing.T) {
	want := edgesOf(t, "the sample", sample(), machine())
	l := sample()
	more := store(0, 0, ref(0, 0))
	l.Logs, l.Body, l.Outs = behind(l.Logs, 9), behind(l.Body, more, more), behind(l.Outs, 2)
	expectEdges(t, "more behind the lengths", l, machine(), want...)
	if l.Logs[:3][2] != 9 || l.Body[:8][6] != more || l.Body[:8][7] != more || l.Outs[:3][2] != 2 {
		t.Errorf("written behind the lengths: %+v", l)
	}
}

func TestEdgesLeaveTheirArguments(t *testing.T) {
	l := sample()
	first, _ := Edges(l, machine())
	kept := fours(first)
	for i := range first[:cap(first)] {
		first[:cap(first)][i] = api.Edge{From: 99, To: 99, Back: 99, Wait: 99}
	}
	if !reflect.DeepEqual(l, sample()) {
		t.Errorf("changed: %+v", l)
	}
	expectEdges(t, "once more, the first answer overwritten", l, machine(), kept...)
}
