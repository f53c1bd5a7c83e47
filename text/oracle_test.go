package text

import (
	"fmt"
	"math/big"
	"math/rand"
	"regexp"
	"slices"
	"strconv"
	"strings"
	"testing"

	"roundelay/api"
	"roundelay/loop"
)

// The oracle reads lines by patterns, one for each of them.
const (
	shortPattern = `(0|-?[1-9][0-9]{0,17})`
	widePattern  = `(0|-?[1-9][0-9]*)`
	refPattern   = `#(0|-?[1-9][0-9]{0,17})(?:~([1-9][0-9]{0,17}))?`
	opPattern    = `(add|sub|mul|and|or|xor|less|same)`
)

func pattern(words ...string) *regexp.Regexp {
	return regexp.MustCompile(`\A` + strings.Join(words, " ") + `\n\z`)
}

var (
	arrayLine = pattern("array", shortPattern)
	constLine = pattern("const", widePattern)
	turnLine  = pattern("turn")
	loadLine  = pattern("load", shortPattern, shortPattern, shortPattern)
	storeLine = pattern("store", shortPattern, shortPattern, shortPattern, refPattern)
	opLine    = pattern(opPattern, refPattern, refPattern)
	outLine   = pattern("out", shortPattern)
	oracleOps = map[string]int{"add": 11, "sub": 12, "mul": 13, "and": 14, "or": 15, "xor": 16, "less": 17, "same": 18}
)

// atoi reads what a pattern has found; what it hasn't found is 0.
func atoi(s string) int {
	n, _ := strconv.Atoi(s)
	return n
}

// oracleStmt is a line's statement, if it is one.
func oracleStmt(line string) (api.Stmt, bool) {
	if m := constLine.FindStringSubmatch(line); m != nil {
		n, _ := new(big.Int).SetString(m[1], 10)
		return api.Stmt{Op: 1, N: n.Int64()}, n.IsInt64()
	}
	if turnLine.MatchString(line) {
		return api.Stmt{Op: 2}, true
	}
	if m := loadLine.FindStringSubmatch(line); m != nil {
		return api.Stmt{Op: 3, Array: atoi(m[1]), Step: atoi(m[2]), Plus: atoi(m[3])}, true
	}
	if m := storeLine.FindStringSubmatch(line); m != nil {
		return api.Stmt{Op: 4, Array: atoi(m[1]), Step: atoi(m[2]), Plus: atoi(m[3]), A: api.Ref{At: atoi(m[4]), Back: atoi(m[5])}}, true
	}
	if m := opLine.FindStringSubmatch(line); m != nil {
		return api.Stmt{Op: oracleOps[m[1]], A: api.Ref{At: atoi(m[2]), Back: atoi(m[3])}, B: api.Ref{At: atoi(m[4]), Back: atoi(m[5])}}, true
	}
	return api.Stmt{}, false
}

// oracleParse goes through all lines and keeps all that they have.
func oracleParse(s string) (api.Loop, api.Fault) {
	l := api.Loop{}
	lines := strings.SplitAfter(s, "\n")
	if lines[len(lines)-1] == "" {
		lines = lines[:len(lines)-1]
	}
	for at, line := range lines {
		none := api.Fault{Code: api.ErrForm, At: at}
		array, out := arrayLine.FindStringSubmatch(line), outLine.FindStringSubmatch(line)
		stmt, isStmt := oracleStmt(line)
		switch {
		case array != nil:
			if len(l.Body)+len(l.Outs) > 0 {
				return api.Loop{}, none
			}
			l.Logs = append(l.Logs, atoi(array[1]))
		case out != nil:
			l.Outs = append(l.Outs, atoi(out[1]))
		case isStmt && len(l.Outs) == 0:
			l.Body = append(l.Body, stmt)
		default:
			return api.Loop{}, none
		}
	}
	if !loop.May(l) {
		return api.Loop{}, api.Fault{Code: api.ErrForm, At: len(lines)}
	}
	return l, api.Fault{}
}

func oracleRef(r api.Ref) string {
	if r.Back > 0 {
		return fmt.Sprintf("#%d~%d", r.At, r.Back)
	}
	return fmt.Sprintf("#%d", r.At)
}

func oraclePrint(l api.Loop) string {
	s := ""
	for _, log := range l.Logs {
		s += fmt.Sprintf("array %d\n", log)
	}
	for _, x := range l.Body {
		switch {
		case x.Op == 1:
			s += fmt.Sprintf("const %d\n", x.N)
		case x.Op == 2:
			s += "turn\n"
		case x.Op == 3:
			s += fmt.Sprintf("load %d %d %d\n", x.Array, x.Step, x.Plus)
		case x.Op == 4:
			s += fmt.Sprintf("store %d %d %d %s\n", x.Array, x.Step, x.Plus, oracleRef(x.A))
		}
		for word, op := range oracleOps {
			if x.Op == op {
				s += fmt.Sprintf("%s %s %s\n", word, oracleRef(x.A), oracleRef(x.B))
			}
		}
	}
	for _, at := range l.Outs {
		s += fmt.Sprintf("out %d\n", at)
	}
	return s
}

// expectAsOracle holds Parse to the oracle, and what it has parsed to the text.
func expectAsOracle(t *testing.T, s string) bool {
	t.Helper()
	want, fault := oracleParse(s)
	if fault.Code != api.OK {
		expectFault(t, "as the oracle tells", s, fault.At)
		return false
	}
	expectBoth(t, "as the oracle tells", want, s)
	return true
}

func anyRef(g *rand.Rand, at, body int) api.Ref {
	if at > 0 && g.Intn(2) == 0 {
		return api.Ref{At: g.Intn(at)}
	}
	return api.Ref{At: g.Intn(body), Back: 1 + g.Intn(api.MaxBack)}
}

func anyStmt(g *rand.Rand, at, body, arrays int) api.Stmt {
	switch kind := g.Intn(5); {
	case kind == 0:
		return api.Stmt{Op: api.LConst, N: int64(g.Uint64()) >> g.Intn(64)}
	case kind == 1:
		return api.Stmt{Op: api.LTurn}
	case kind == 2 && arrays > 0:
		return api.Stmt{Op: api.LLoad, Array: g.Intn(arrays), Step: g.Intn(129) - 64, Plus: g.Intn(129) - 64}
	case kind == 3 && arrays > 0:
		return api.Stmt{Op: api.LStore, Array: g.Intn(arrays), Step: g.Intn(129) - 64, Plus: g.Intn(129) - 64, A: anyRef(g, at, body)}
	}
	return api.Stmt{Op: api.LOp + 1 + g.Intn(8), A: anyRef(g, at, body), B: anyRef(g, at, body)}
}

func anyLoop(g *rand.Rand) api.Loop {
	l := api.Loop{}
	for range g.Intn(api.MaxArrays + 1) {
		l.Logs = append(l.Logs, g.Intn(api.MaxLog+1))
	}
	body, outs := 1+g.Intn(api.MaxBody), g.Intn(4)
	for at := range body {
		l.Body = append(l.Body, anyStmt(g, at, body, len(l.Logs)))
		if g.Intn(3) < outs {
			l.Outs = append(l.Outs, at)
		}
	}
	return l
}

func TestAnyLoopAsTheOracleTells(t *testing.T) {
	for seed := range int64(5000) {
		l := anyLoop(rand.New(rand.NewSource(seed)))
		expectBoth(t, "any loop", l, oraclePrint(l))
	}
}

// changed is a text with a byte, a word or a line of it other, gone, or twice there.
func changed(g *rand.Rand, s string) string {
	if s == "" {
		return "\n"
	}
	at := g.Intn(len(s))
	switch g.Intn(7) {
	case 0:
		return s[:at] + s[at+1:]
	case 1:
		return s[:at] + string("0123456789-~# \nxat"[g.Intn(18)]) + s[at:]
	case 2:
		return s[:at] + string("0123456789-~# \nxat"[g.Intn(18)]) + s[at+1:]
	case 3:
		return s[:at]
	case 4:
		words := slices.Concat(shortNumbers(), longNumbers(), beyondNumbers()[:9], []string{"#0", "#0~1", "#1~0", "0", "1", "-0", "turn"})
		parts := strings.Split(s, " ")
		parts[g.Intn(len(parts))] = words[g.Intn(len(words))]
		return strings.Join(parts, " ")
	}
	lines := strings.SplitAfter(s, "\n")
	a, b := g.Intn(len(lines)), g.Intn(len(lines))
	lines[a], lines[b] = lines[b], lines[a]
	if g.Intn(3) == 0 {
		lines = append(lines, lines[a])
	}
	return strings.Join(lines, "")
}

func TestAnyTextNearOneOfALoop(t *testing.T) {
	taken, refused := 0, 0
	for seed := range int64(60000) {
		g := rand.New(rand.NewSource(seed))
		s := oraclePrint(anyLoop(g))
		for range 1 + g.Intn(2) {
			s = changed(g, s)
		}
		if expectAsOracle(t, s) {
			taken++
		} else {
			refused++
		}
	}
	if taken < 5000 || refused < 20000 {
		t.Errorf("too little was tried: %d taken, %d refused", taken, refused)
	}
}

// No byte is there in vain, and none can be added: with any one of them changed, gone or twice there the text is another loop's, or none.
func TestEachByteCounts(t *testing.T) {
	for at := range len(sampleText) + 1 {
		for b := range 256 {
			expectAsOracle(t, sampleText[:at]+string([]byte{byte(b)})+sampleText[at:])
			if at < len(sampleText) {
				expectAsOracle(t, sampleText[:at]+string([]byte{byte(b)})+sampleText[at+1:])
			}
		}
		if at < len(sampleText) {
			expectAsOracle(t, sampleText[:at]+sampleText[at+1:])
		}
	}
}

// Whatever is not even near to a text is refused, and nothing panics.
func FuzzParse(f *testing.F) {
	f.Add("")
	f.Add("turn\nadd #0 #1~1\nout 1\n")
	f.Add(sampleText)
	f.Add("array 1\nconst 9223372036854775808\n")
	f.Fuzz(func(t *testing.T, s string) {
		expectAsOracle(t, s)
	})
}
