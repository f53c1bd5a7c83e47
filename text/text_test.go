package text

import (
	"fmt"
	"math"
	"reflect"
	"slices"
	"strings"
	"testing"

	"roundelay/api"
)

// sample has a statement of each kind, and no two numbers of a line alike, so that none can stand in for another one.
func sample() api.Loop {
	return api.Loop{
		Logs: []int{0, 5, 3},
		Body: []api.Stmt{
			{Op: api.LConst, N: -7},
			{Op: api.LTurn},
			{Op: api.LLoad, Array: 1, Step: 2, Plus: -3},
			{Op: api.LStore, A: api.Ref{At: 0}, Array: 2, Step: -64, Plus: 64},
			{Op: api.LStore, A: api.Ref{At: 5, Back: 2}, Array: 0, Step: 1, Plus: -1},
			{Op: api.LOp + api.OpAdd, A: api.Ref{At: 0}, B: api.Ref{At: 1}},
			{Op: api.LOp + api.OpSub, A: api.Ref{At: 6, Back: 1}, B: api.Ref{At: 2}},
			{Op: api.LOp + api.OpMul, A: api.Ref{At: 3}, B: api.Ref{At: 13, Back: 3}},
			{Op: api.LOp + api.OpAnd, A: api.Ref{At: 12, Back: 1}, B: api.Ref{At: 0, Back: 2}},
			{Op: api.LOp + api.OpOr, A: api.Ref{At: 8}, B: api.Ref{At: 8, Back: 3}},
			{Op: api.LOp + api.OpXor, A: api.Ref{At: 4}, B: api.Ref{At: 7}},
			{Op: api.LOp + api.OpLess, A: api.Ref{At: 10}, B: api.Ref{At: 9}},
			{Op: api.LOp + api.OpSame, A: api.Ref{At: 11}, B: api.Ref{At: 3}},
			{Op: api.LConst},
		},
		Outs: []int{0, 3, 10, 13},
	}
}

const sampleText = `array 0
array 5
array 3
const -7
turn
load 1 2 -3
store 2 -64 64 #0
store 0 1 -1 #5~2
add #0 #1
sub #6~1 #2
mul #3 #13~3
and #12~1 #0~2
or #8 #8~3
xor #4 #7
less #10 #9
same #11 #3
const 0
out 0
out 3
out 10
out 13
`

// noNumbers are words that are no numbers, whatever they stand for.
func noNumbers() []string {
	return []string{
		"", "-", "+", "--1", "-+1", "+-1", "+0", "+1", "-0", "00", "01", "007", "-00", "-01", "0-1", "1-", "1-1",
		"0x1", "0b1", "0o1", "0X1", "1_0", "_1", "1_", "1.0", "1.", ".1", "1e0", "1e1", "1,0", "1'0", "x", "1x", "x1", "f", "nil", "NaN", "Inf", "true",
		"#", "#0", "#1~1", "~", "~1", "1~1", "1#", "\x00", "1\x00", "\x001", "1\t", "\t1", "1\r", "\r1", "1\v", "1\u00a0", "\u00a01", "\u0661", "\uff11", "\xff", "1\xff", "\u22121", "/", ":", "\"1\"",
		strings.Repeat("0", 18), strings.Repeat("0", 19), "0" + strings.Repeat("1", 17), strings.Repeat("0", 1000) + "1", strings.Repeat("1", 1000) + "x",
	}
}

// longNumbers have more than 18 digits, and are of 64 bits.
func longNumbers() []string {
	return []string{
		"1000000000000000000", "1000000000000000001", "1111111111111111111", "9223372036854775806", "9223372036854775807",
		"-1000000000000000000", "-1000000000000000001", "-1111111111111111111", "-9223372036854775807", "-9223372036854775808",
	}
}

// beyondNumbers are beyond 64 bits. Of some of them a small number is left, where bits are cut off.
func beyondNumbers() []string {
	return []string{
		"9223372036854775808", "9223372036854775809", "-9223372036854775809", "-9223372036854775810", "9999999999999999999", "-9999999999999999999",
		"18446744073709551615", "18446744073709551616", "18446744073709551617", "-18446744073709551615", "-18446744073709551616", "-18446744073709551617",
		"10000000000000000000", "36893488147419103232", "340282366920938463463374607431768211456", "340282366920938463463374607431768211457",
		"1" + strings.Repeat("0", 1000), "-1" + strings.Repeat("0", 1000), strings.Repeat("9", 100000),
	}
}

// shortNumbers have up to 18 digits, and are beyond all limits of a loop.
func shortNumbers() []string {
	return []string{
		"65", "99", "256", "65536", "2147483647", "2147483648", "4294967296", "4294967297", "99999999999999999", "100000000000000000", "999999999999999998", "999999999999999999",
		"-65", "-256", "-2147483648", "-2147483649", "-4294967296", "-4294967297", "-99999999999999999", "-100000000000000000", "-999999999999999998", "-999999999999999999",
	}
}

// place is a text with a number left out, at the sign $, in that line, and with so many lines.
type place struct {
	text        string
	line, lines int
}

// places are all those at which a number stands that is not N. Each has, but for that number, a loop that may be.
func places() []place {
	all := []place{
		{"array $\nturn\n", 0, 2},
		{"array 1\narray $\nturn\nout 0\n", 1, 4},
		{"turn\nout $\n", 1, 2},
		{"turn\nturn\nout 0\nout $\n", 3, 4},
		{"array 1\nturn\nload $ 0 0\nout 1\n", 2, 4},
		{"array 1\nturn\nload 0 $ 0\nout 1\n", 2, 4},
		{"array 1\nturn\nload 0 0 $\nout 1\n", 2, 4},
		{"array 1\nturn\nstore $ 0 0 #0\nturn\n", 2, 4},
		{"array 1\nturn\nstore 0 $ 0 #0\nturn\n", 2, 4},
		{"array 1\nturn\nstore 0 0 $ #0\nturn\n", 2, 4},
		{"array 1\nturn\nstore 0 0 0 #$\nturn\n", 2, 4},
		{"array 1\nturn\nstore 0 0 0 #$~1\nturn\n", 2, 4},
	}
	for _, word := range []string{"add", "sub", "mul", "and", "or", "xor", "less", "same"} {
		for _, refs := range []string{"#$ #0", "#$~1 #0", "#0 #$", "#0 #$~1"} {
			all = append(all, place{"turn\n" + word + " " + refs + "\nout 1\n", 1, 3})
		}
	}
	return all
}

// backs are the places at which a Back stands.
func backs() []place {
	return []place{
		{"array 1\nturn\nstore 0 0 0 #0~$\nturn\n", 2, 4},
		{"turn\nadd #0~$ #0\nout 1\n", 1, 3},
		{"turn\nsame #0 #0~$\nout 1\n", 1, 3},
	}
}

func (p place) with(word string) string {
	return strings.Replace(p.text, "$", word, 1)
}

func same(a, b api.Loop) bool {
	return slices.Equal(a.Logs, b.Logs) && slices.Equal(a.Body, b.Body) && slices.Equal(a.Outs, b.Outs)
}

// short keeps what a test tells within bounds.
func short(s string) string {
	if len(s) > 300 {
		return fmt.Sprintf("%q.. (%d bytes)", s[:300], len(s))
	}
	return fmt.Sprintf("%q", s)
}

func expectText(t *testing.T, name string, l api.Loop, want string) {
	t.Helper()
	if s, code := Print(l); code != api.OK || s != want {
		t.Errorf("%s: Print = %q, %d, want %q", name, s, code, want)
	}
}

func expectLoop(t *testing.T, name string, s string, want api.Loop) {
	t.Helper()
	if l, f := Parse(s); f != (api.Fault{}) || !same(l, want) {
		t.Errorf("%s: Parse = %+v, %+v of %s, want %+v", name, l, f, short(s), want)
	}
}

// expectBoth holds that a loop has this text, and is what the text is parsed as.
func expectBoth(t *testing.T, name string, l api.Loop, s string) {
	t.Helper()
	expectText(t, name, l, s)
	expectLoop(t, name, s, l)
}

func expectNoText(t *testing.T, name string, l api.Loop) {
	t.Helper()
	if s, code := Print(l); code != api.ErrForm || s != "" {
		t.Errorf("%s: Print = %q, %d of %+v", name, s, code, l)
	}
}

func expectFault(t *testing.T, name, s string, at int) {
	t.Helper()
	l, f := Parse(s)
	if f != (api.Fault{Code: api.ErrForm, At: at}) || len(l.Logs)+len(l.Body)+len(l.Outs) != 0 {
		t.Errorf("%s: Parse = %+v, %+v of %s, want a fault at %d", name, l, f, short(s), at)
	}
}

func TestLimits(t *testing.T) {
	if api.MaxBody != 16 || api.MaxArrays != 3 || api.MaxLog != 5 || api.MaxBack != 3 || api.MaxStep != 64 {
		t.Error("the limits are others than those which these tests were written for")
	}
}

func TestTextByHand(t *testing.T) {
	expectBoth(t, "the sample", sample(), sampleText)
	sum := api.Loop{Body: []api.Stmt{{Op: api.LTurn}, {Op: api.LOp + api.OpAdd, A: api.Ref{At: 0}, B: api.Ref{At: 1, Back: 1}}}, Outs: []int{1}}
	expectBoth(t, "the chapter's example", sum, "turn\nadd #0 #1~1\nout 1\n")
	turn := []api.Stmt{{Op: api.LTurn}}
	expectBoth(t, "no arrays, no Outs", api.Loop{Body: turn}, "turn\n")
	expectBoth(t, "lists that are empty, not nil", api.Loop{Logs: []int{}, Body: turn, Outs: []int{}}, "turn\n")
	expectBoth(t, "no arrays", api.Loop{Body: turn, Outs: []int{0}}, "turn\nout 0\n")
	expectBoth(t, "no Outs", api.Loop{Logs: []int{2}, Body: turn}, "array 2\nturn\n")
	expectBoth(t, "the same array twice", api.Loop{Logs: []int{4, 4}, Body: turn}, "array 4\narray 4\nturn\n")
	expectBoth(t, "the same statement twice", api.Loop{Body: slices.Repeat(turn, 2)}, "turn\nturn\n")
}

func TestEachLimitIsWritten(t *testing.T) {
	full := api.Loop{Logs: []int{5, 5, 5}}
	s := "array 5\narray 5\narray 5\n"
	outs := ""
	for at := range 16 {
		full.Body = append(full.Body, api.Stmt{Op: api.LOp + api.OpSub, A: api.Ref{At: 15 - at, Back: 3}, B: api.Ref{At: at, Back: 1}})
		full.Outs = append(full.Outs, at)
		s += fmt.Sprintf("sub #%d~3 #%d~1\n", 15-at, at)
		outs += fmt.Sprintf("out %d\n", at)
	}
	expectBoth(t, "as much of all as may be", full, s+outs)
	for log := range 6 {
		expectBoth(t, "a log", api.Loop{Logs: []int{log}, Body: []api.Stmt{{Op: api.LTurn}}}, fmt.Sprintf("array %d\nturn\n", log))
	}
	for n := -64; n <= 64; n++ {
		load := api.Stmt{Op: api.LLoad, Array: 1, Step: n, Plus: -n}
		store := api.Stmt{Op: api.LStore, Array: 2, Step: -n, Plus: n, A: api.Ref{At: 1, Back: 3}}
		expectBoth(t, "a step and a plus", api.Loop{Logs: []int{0, 1, 2}, Body: []api.Stmt{load, store}}, fmt.Sprintf("array 0\narray 1\narray 2\nload 1 %d %d\nstore 2 %d %d #1~3\n", n, -n, -n, n))
	}
}

func TestEachOpHasItsWord(t *testing.T) {
	words := map[int]string{api.OpAdd: "add", api.OpSub: "sub", api.OpMul: "mul", api.OpAnd: "and", api.OpOr: "or", api.OpXor: "xor", api.OpLess: "less", api.OpSame: "same"}
	for op, word := range words {
		l := api.Loop{Body: []api.Stmt{{Op: api.LTurn}, {Op: api.LTurn}, {Op: api.LOp + op, A: api.Ref{At: 1}, B: api.Ref{At: 0, Back: 2}}}}
		expectBoth(t, word, l, "turn\nturn\n"+word+" #1 #0~2\n")
	}
}

func TestNIsAnyOf64Bits(t *testing.T) {
	for s, n := range map[string]int64{
		"0": 0, "1": 1, "-1": -1, "9": 9, "10": 10, "-10": -10, "100": 100,
		"999999999999999999": 999999999999999999, "1000000000000000000": 1000000000000000000, "1000000000000000001": 1000000000000000001,
		"-999999999999999999": -999999999999999999, "-1000000000000000000": -1000000000000000000,
		"9223372036854775806": math.MaxInt64 - 1, "9223372036854775807": math.MaxInt64,
		"-9223372036854775807": math.MinInt64 + 1, "-9223372036854775808": math.MinInt64,
	} {
		expectBoth(t, "N is "+s, api.Loop{Body: []api.Stmt{{Op: api.LConst, N: n}}}, "const "+s+"\n")
	}
}

func TestNIsNoOtherNumber(t *testing.T) {
	for _, word := range slices.Concat(noNumbers(), beyondNumbers()) {
		expectFault(t, "N", "turn\nconst "+word+"\nout 0\n", 1)
	}
}

func TestWordsThatAreNoNumbers(t *testing.T) {
	for _, p := range slices.Concat(places(), backs()) {
		for _, word := range slices.Concat(noNumbers(), longNumbers(), beyondNumbers()) {
			if strings.HasPrefix(word, "1~") && strings.Contains(p.text, "#$") && !strings.Contains(p.text, "$~") {
				continue // of these the Ref is one, with a Back
			}
			expectFault(t, "no number", p.with(word), p.line)
		}
	}
}

// A number within 18 digits has a line, whatever it is, though no loop may be with it.
func TestNumbersBeyondTheLimits(t *testing.T) {
	for _, p := range places() {
		for _, word := range append(shortNumbers(), "-1000", "1000") {
			expectFault(t, "a number beyond the limits", p.with(word), p.lines)
		}
	}
	for s, lines := range map[string]int{
		"array -1\nturn\n": 2, "array 6\nturn\n": 2, "turn\nout -1\n": 2, "turn\nout 1\n": 2, "turn\nout 16\n": 2,
		"array 1\nload 1 0 0\n": 2, "array 1\nload -1 0 0\n": 2, "load 0 0 0\n": 1, "array 1\nload 0 65 0\n": 2, "array 1\nload 0 0 -65\n": 2,
		"turn\nadd #-1 #0\n": 2, "turn\nadd #1 #0\n": 2, "turn\nadd #0 #1\n": 2, "turn\nadd #0 #2~1\n": 2, "turn\nadd #-1~1 #0\n": 2,
		"turn\nadd #0~4 #0\n": 2, "turn\nadd #0 #1~4\n": 2, "array 0\nstore 0 0 0 #0\n": 2, "array 0\nstore 0 0 0 #0~4\n": 2, "array 0\nstore 0 0 0 #1~1\n": 2,
	} {
		expectFault(t, "just beyond a limit", s, lines)
	}
}

func TestBack(t *testing.T) {
	for back := 1; back <= 3; back++ {
		l := api.Loop{Body: []api.Stmt{{Op: api.LTurn}, {Op: api.LOp + api.OpAdd, A: api.Ref{Back: back}, B: api.Ref{At: 1, Back: back}}}}
		expectBoth(t, "a Back", l, fmt.Sprintf("turn\nadd #0~%d #1~%d\n", back, back))
	}
	for _, p := range backs() {
		expectFault(t, "a Back of 0 that is written", p.with("0"), p.line)
		for _, word := range shortNumbers() {
			if strings.HasPrefix(word, "-") {
				expectFault(t, "a Back below 0", p.with(word), p.line)
				continue
			}
			expectFault(t, "a Back beyond the limit", p.with(word), p.lines)
		}
		expectFault(t, "a Back below 0", p.with("-1"), p.line)
		expectFault(t, "a Back beyond the limit", p.with("4"), p.lines)
	}
}

func TestWordsThatAreNoRefs(t *testing.T) {
	for _, word := range []string{
		"", "0", "-1", "0~1", "~1", "~", "#", "##0", "#0#", "#~1", "#0~", "#~", "#0~~1", "#0~1~", "#0~1~1", "#0~1#", "#0~#1", "~1#0", "# 0", "#0 ~1", "#0~ 1", "#0 ", " #0", "#+0", "#00", "#-0",
		"#01", "#0~01", "#0~+1", "#0~00", "#0~-0", "#0-1", "@0", "$0", "\"#0\"", "#x", "#0~x", "#0x0", "#0,", "#0~1.", "\u0040", "\uff030", "#0\u02dc1", "#0\t", "#0\r", "#0\x00", "#\xff",
	} {
		for _, s := range []string{"turn\nadd $ #0\n", "turn\nadd #0 $\n", "array 0\nstore 0 1 1 $\nturn\n", "turn\nmul $ $\n"} {
			expectFault(t, "no Ref", strings.ReplaceAll(s, "$", word), 1)
		}
	}
}

// goodLines are lines that may each stand alone in the middle of a text.
func goodLines() []string {
	return []string{"const 1", "turn", "load 0 1 2", "store 0 1 2 #0", "add #0 #0~1", "sub #0 #0", "mul #0 #0", "and #0 #0", "or #0 #0", "xor #0 #0", "less #0 #0", "same #0~3 #0~2"}
}

func TestBlanks(t *testing.T) {
	for _, line := range append(goodLines(), "array 1", "out 0") {
		bad := []string{" " + line, line + " ", "  " + line, line + "  ", "\t" + line, line + "\t", line + "\r", "\r" + line, line + "\v", line + "\x00", line + "\u00a0", "\ufeff" + line}
		for at := range line {
			if line[at] == ' ' {
				for _, other := range []string{"  ", "   ", "\t", " \t", "\t ", "", "\u00a0", "\r", "\x00", ",", ", ", "_"} {
					bad = append(bad, line[:at]+other+line[at+1:])
				}
			}
		}
		for _, other := range bad {
			expectFault(t, "blanks", other+"\n", 0)
			expectFault(t, "blanks behind an array", "array 0\n"+other+"\n", 1)
			expectFault(t, "blanks behind a statement", "array 0\nturn\n"+other+"\nout 0\n", 2)
			expectFault(t, "blanks behind an out", "array 0\nturn\nout 0\n"+other+"\n", 3)
		}
	}
}

func TestWordsThatAreNone(t *testing.T) {
	words := []string{"", "x", "nop", "div", "not", "neg", "mod", "shl", "end", "body", "loop", "logs", "ref", "op", "arrays", "outs", "consts", "turns", "loads", "stores", "adds", "equal", "eq", "lt", "xnor", "nor", "nand", "0", "-1", "#0", "#0~1", "\x00", "\xff", "//", "#", ";"}
	for _, line := range append(goodLines(), "array 1", "out 0") {
		word := strings.Fields(line)[0]
		words = append(words, strings.ToUpper(word), strings.ToUpper(word[:1])+word[1:], word[1:], word[:len(word)-1], word+word, word+"s", "x"+word, word+":", word+"\x00", "\""+word+"\"")
	}
	for _, word := range words {
		if slices.Contains([]string{"or", "xor"}, word) {
			continue // each of them is near to the other one
		}
		for _, rest := range []string{"", " 0", " 1", " #0", " 0 0", " #0 #0", " #0 #0~1", " 0 0 0", " #0 #0 #0", " 0 0 0 #0", " 0 0 0 0", " 0 0 0 #0 #0"} {
			expectFault(t, "a word that is none", "array 1\nturn\n"+word+rest+"\nturn\n", 2)
		}
	}
}

// Each word has its own number of others behind it, and its own kinds of them.
func TestOtherThanWhatFollowsAWord(t *testing.T) {
	own := map[string]string{"array": " 1", "out": " 1", "const": " 1", "turn": "", "load": " 1 1 1", "store": " 1 1 1 #1"}
	for _, word := range []string{"add", "sub", "mul", "and", "or", "xor", "less", "same"} {
		own[word] = " #1 #1"
	}
	rests := []string{""}
	for from := 0; len(rests[from]) < 5*3; from++ {
		rests = append(rests, rests[from]+" 1", rests[from]+" #1", rests[from]+" x")
	}
	for word, right := range own {
		found := 0
		for _, rest := range rests {
			if rest == right {
				found++
				continue
			}
			expectFault(t, "not what follows the word", word+rest+"\n", 0)
		}
		if found != 1 {
			t.Errorf("%s: what follows it was among them %d times", word, found)
		}
		expectFault(t, "what follows the word", word+right+"\nout 9\n", 2)
		expectFault(t, "a great many words", word+strings.Repeat(" 1", 10000)+"\n", 0)
	}
}

func TestLineEnds(t *testing.T) {
	expectFault(t, "the empty text", "", 0)
	expectFault(t, "an empty line alone", "\n", 0)
	expectFault(t, "empty lines alone", "\n\n\n", 0)
	expectFault(t, "an empty line ahead", "\nturn\n", 0)
	expectFault(t, "an empty line between", "turn\n\nturn\n", 1)
	expectFault(t, "an empty line at the end", "turn\n\n", 1)
	expectFault(t, "no byte 10 at all", "turn", 0)
	expectFault(t, "no byte 10 at the end", "turn\nturn", 1)
	expectFault(t, "an out without its byte 10", "turn\nout 0", 1)
	expectFault(t, "a blank behind the last byte 10", "turn\n ", 1)
	expectFault(t, "a byte 0 behind the last byte 10", "turn\n\x00", 1)
	expectFault(t, "a byte 13 ahead of each byte 10", "turn\r\nturn\r\n", 0)
	expectFault(t, "bytes 13 alone", "turn\rturn\r", 0)
	expectFault(t, "other ends of lines", "turn\u2028turn\u0085\n", 0)
	expectFault(t, "a line that is none, and one without an end", "turn\nx\nturn", 1)
	for end := range sampleText {
		if cut := sampleText[:end]; end > 0 && cut[end-1] != '\n' {
			expectFault(t, "cut", cut, strings.Count(cut, "\n"))
		}
	}
}

// A text that is cut behind a line is a loop's as soon as it has a statement, and no Ref looks at what is cut.
func TestCutBehindALine(t *testing.T) {
	all := strings.SplitAfter(sampleText, "\n")
	for _, n := range []int{0, 1, 2, 3, 8, 11, 12, 13, 14, 15, 16} {
		expectFault(t, "a loop that may not be", strings.Join(all[:n], ""), n)
	}
	for _, n := range []int{4, 5, 6, 7, 9, 10, 17} {
		l := sample()
		expectBoth(t, "fewer statements", api.Loop{Logs: l.Logs, Body: l.Body[:n-3]}, strings.Join(all[:n], ""))
	}
	for n := range 5 {
		l := sample()
		l.Outs = l.Outs[:n]
		expectBoth(t, "fewer Outs", l, strings.Join(all[:17+n], ""))
	}
}

// orderFault is the line at which a text is out of order whose lines are those of the letters: array, statement, out, and x for one that is none; or how many there are.
func orderFault(letters string) int {
	for at, letter := range letters {
		ahead := letters[:at]
		if letter == 'x' || letter == 'a' && strings.ContainsAny(ahead, "so") || letter == 's' && strings.Contains(ahead, "o") {
			return at
		}
	}
	return len(letters)
}

func TestOrder(t *testing.T) {
	line := map[rune]string{'a': "array 9\n", 's': "turn\n", 'o': "out 99\n", 'x': "x\n"}
	all := []string{""}
	for from := 0; len(all[from]) < 6; from++ {
		for _, letter := range "asox" {
			all = append(all, all[from]+string(letter))
		}
	}
	for _, letters := range all {
		s := "array 6\n"
		for _, letter := range letters {
			s += line[letter]
		}
		expectFault(t, letters, s, orderFault("a"+letters))
	}
}

func TestOrderOfEachStatement(t *testing.T) {
	for _, line := range goodLines() {
		expectFault(t, "a statement behind an out", "array 0\nturn\nout 0\n"+line+"\n", 3)
		expectFault(t, "a statement behind outs", "array 0\nturn\nturn\nout 0\nout 1\n"+line+"\nout 2\n", 5)
		expectFault(t, "a statement behind an out alone", "out 0\n"+line+"\n", 1)
		expectFault(t, "an array behind a statement", "array 0\nturn\n"+line+"\narray 0\n", 3)
		expectFault(t, "an array behind a statement alone", line+"\narray 0\n", 1)
	}
	expectFault(t, "an array behind an out", "turn\nout 0\narray 0\n", 2)
	expectFault(t, "an array behind an out alone", "out 0\narray 0\n", 1)
}

// Too many lines of a kind are lines, all of them: what is wrong behind them is told.
func TestTooMany(t *testing.T) {
	for _, n := range []int{17, 18, 32, 255, 256, 257, 1 << 16, 1<<16 + 1, 1 << 18} {
		arrays, body, outs := strings.Repeat("array 1\n", n), strings.Repeat("turn\n", n), strings.Repeat("out 0\n", n)
		expectFault(t, "too many arrays", arrays+"turn\n", n+1)
		expectFault(t, "too many statements", body, n)
		expectFault(t, "too many Outs", "turn\n"+outs, n+1)
		expectFault(t, "too many of all", arrays+body+outs, 3*n)
		expectFault(t, "no line behind too many", arrays+body+outs+"x\n", 3*n)
		expectFault(t, "no end behind too many", arrays+body+outs+"out 0", 3*n)
		expectFault(t, "an array behind too many statements", body+arrays, n)
		expectFault(t, "a statement behind too many Outs", outs+body, n)
		expectFault(t, "an array behind too many Outs", outs+arrays, n)
	}
	expectFault(t, "one array too many", strings.Repeat("array 1\n", 4)+"turn\n", 5)
	expectFault(t, "nothing but arrays", strings.Repeat("array 1\n", 3), 3)
	expectFault(t, "nothing but outs", "out 0\nout 1\n", 2)
	expectFault(t, "arrays and outs", "array 1\nout 0\n", 2)
	risingOuts := ""
	for at := range 17 {
		risingOuts += fmt.Sprintf("out %d\n", at)
	}
	expectFault(t, "one of Outs too many", strings.Repeat("turn\n", 16)+risingOuts, 33)
	expectFault(t, "one statement too many, and one of Outs", strings.Repeat("turn\n", 17)+risingOuts, 34)
}

func TestLinesThatAreRightOfALoopThatMayNotBe(t *testing.T) {
	for _, s := range []string{
		"add #0 #0\n", "turn\nadd #0 #1\n", "turn\nout 1\n", "turn\nturn\nout 1\nout 0\n", "turn\nout 0\nout 0\n",
		"load 0 0 0\n", "array 0\nload 1 0 0\n", "array 6\nturn\n", "array 0\nstore 0 0 0 #0\n", "turn\nsub #2~1 #0\n", "turn\nsub #0~4 #0\n",
	} {
		expectFault(t, "a loop that may not be", s, strings.Count(s, "\n"))
	}
}

func TestPrintRefusesLoopsThatMayNotBe(t *testing.T) {
	expectNoText(t, "no loop at all", api.Loop{})
	expectNoText(t, "nothing but arrays", api.Loop{Logs: []int{1}})
	changes := map[string]func(l *api.Loop){
		"a log below 0":               func(l *api.Loop) { l.Logs[0] = -1 },
		"a log beyond the limit":      func(l *api.Loop) { l.Logs[2] = 6 },
		"too many arrays":             func(l *api.Loop) { l.Logs = append(l.Logs, 0) },
		"no statements":               func(l *api.Loop) { l.Body, l.Outs = nil, nil },
		"too many statements":         func(l *api.Loop) { l.Body = slices.Repeat(l.Body[:1], 17) },
		"a great many statements":     func(l *api.Loop) { l.Body = slices.Repeat(l.Body[:1], 1<<16) },
		"too many Outs":               func(l *api.Loop) { l.Outs = make([]int, 17) },
		"Outs that don't rise":        func(l *api.Loop) { l.Outs = []int{1, 1} },
		"Outs that fall":              func(l *api.Loop) { l.Outs = []int{1, 0} },
		"an out below 0":              func(l *api.Loop) { l.Outs[0] = -1 },
		"an out of no statement":      func(l *api.Loop) { l.Outs[3] = 14 },
		"no Op":                       func(l *api.Loop) { l.Body[1].Op = 0 },
		"an Op below 0":               func(l *api.Loop) { l.Body[1].Op = -1 },
		"an Op ahead of OpAdd":        func(l *api.Loop) { l.Body[5].Op = api.LOp },
		"an Op behind OpSame":         func(l *api.Loop) { l.Body[5].Op = api.LOp + 9 },
		"an Op far ahead":             func(l *api.Loop) { l.Body[5].Op = math.MinInt },
		"an Op far behind":            func(l *api.Loop) { l.Body[5].Op = math.MaxInt },
		"an Op behind LStore":         func(l *api.Loop) { l.Body[5].Op = 5 },
		"a step beyond the limit":     func(l *api.Loop) { l.Body[2].Step = 65 },
		"a plus beyond the limit":     func(l *api.Loop) { l.Body[3].Plus = -65 },
		"an array that is none":       func(l *api.Loop) { l.Body[2].Array = 3 },
		"an array below 0":            func(l *api.Loop) { l.Body[3].Array = -1 },
		"a Ref to its own turn":       func(l *api.Loop) { l.Body[5].A = api.Ref{At: 5} },
		"a Ref to no statement":       func(l *api.Loop) { l.Body[5].B = api.Ref{At: 14, Back: 1} },
		"a Back below 0":              func(l *api.Loop) { l.Body[5].B.Back = -1 },
		"a Back beyond the limit":     func(l *api.Loop) { l.Body[5].A.Back = 4 },
		"a store's Ref that is none":  func(l *api.Loop) { l.Body[3].A = api.Ref{At: -1} },
		"a turn with an N":            func(l *api.Loop) { l.Body[1].N = 1 },
		"a const with a Ref":          func(l *api.Loop) { l.Body[0].A.Back = 1 },
		"a load with a Ref":           func(l *api.Loop) { l.Body[2].A.At = 1 },
		"a store with a second Ref":   func(l *api.Loop) { l.Body[3].B.At = 1 },
		"an operation with an array":  func(l *api.Loop) { l.Body[5].Array = 1 },
		"an operation with a step":    func(l *api.Loop) { l.Body[5].Step = 1 },
		"an operation with an N":      func(l *api.Loop) { l.Body[5].N = 1 },
		"a const with a plus besides": func(l *api.Loop) { l.Body[0].Plus = 1 },
	}
	for name, change := range changes {
		l := sample()
		change(&l)
		expectNoText(t, name, l)
	}
}

func TestPrintReadsAndWritesNothingBehindALength(t *testing.T) {
	l := sample()
	all := api.Loop{Logs: slices.Concat(l.Logs, []int{7, -8}), Body: slices.Concat(l.Body, l.Body), Outs: slices.Concat(l.Outs, []int{0, 99})}
	cut := api.Loop{Logs: all.Logs[:3], Body: all.Body[:14], Outs: all.Outs[:4]}
	before := api.Loop{Logs: slices.Clone(all.Logs), Body: slices.Clone(all.Body), Outs: slices.Clone(all.Outs)}
	expectText(t, "more behind the lengths", cut, sampleText)
	if !reflect.DeepEqual(all, before) {
		t.Errorf("changed: %+v", all)
	}
}

// An answer is nobody else's: what is written into it changes nothing that is answered next, nor another list of it.
func TestParseAnswersNewMemory(t *testing.T) {
	for range 3 {
		l, f := Parse(sampleText)
		if f != (api.Fault{}) || !same(l, sample()) {
			t.Fatalf("once more: %+v, %+v", l, f)
		}
		outs := slices.Clone(l.Outs)
		for i, logs := 0, l.Logs[:cap(l.Logs)]; i < len(logs); i++ {
			logs[i] = -99
		}
		if !slices.Equal(l.Outs, outs) {
			t.Errorf("two lists share memory: %+v", l)
		}
		clear(l.Body[:cap(l.Body)])
		clear(l.Outs[:cap(l.Outs)])
	}
	l := sample()
	s, _ := Print(l)
	clear(l.Logs)
	clear(l.Body)
	clear(l.Outs)
	if s != sampleText {
		t.Errorf("kept: %q", s)
	}
}
