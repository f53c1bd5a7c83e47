package drive

import (
	"fmt"
	"math"
	"slices"
	"strings"
	"testing"

	"roundelay/api"
	"roundelay/build"
	"roundelay/check"
	"roundelay/text"
)

// said is a line, and its answer.
type said struct{ line, answer string }

// sum is what the turns' numbers are together.
const sum = "turn\nadd #0 #1~1\nout 1\n"

// firstMachine is the line of the machine that there is at first.
const firstMachine = "machine 2 1 1 1 3 2 32"

// put are the lines that make a text.
func put(s string) string {
	lines := ""
	for line := range strings.Lines(s) {
		lines += "= " + line
	}
	return lines
}

// short keeps what a test tells within bounds.
func short(s string) string {
	if len(s) > 600 {
		return fmt.Sprintf("%q.. (%d bytes)", s[:600], len(s))
	}
	return fmt.Sprintf("%q", s)
}

func expectPlay(t *testing.T, name, script, want string) {
	t.Helper()
	if got := Play(script); got != want {
		t.Errorf("%s: Play = %s of %s, want %s", name, short(got), short(script), short(want))
	}
}

// expectSaid plays lines, with a byte 10 behind the last one, and without.
func expectSaid(t *testing.T, name string, all []said) {
	t.Helper()
	script, want := "", ""
	for _, s := range all {
		script += s.line + "\n"
		want += s.answer + "\n"
	}
	expectPlay(t, name, script, want)
	if len(all) > 0 && all[len(all)-1].line != "" {
		expectPlay(t, name+", without the last byte 10", script[:len(script)-1], want)
	}
}

// lastAnswer is the answer to a script's last line.
func lastAnswer(script string) string {
	answers := strings.Split(strings.TrimSuffix(Play(script), "\n"), "\n")
	return answers[len(answers)-1]
}

// expectLast plays a line behind others.
func expectLast(t *testing.T, name, ahead, line, want string) {
	t.Helper()
	if got := lastAnswer(ahead + line + "\n"); got != want {
		t.Errorf("%s: %s is answered by %s behind %s, want %s", name, short(line), short(got), short(ahead), short(want))
	}
}

func TestLimits(t *testing.T) {
	if api.MaxBody != 16 || api.MaxArrays != 3 || api.MaxLog != 5 || api.MaxBack != 3 || api.MaxUnits != 4 || api.MaxWait != 6 || api.MaxRegs != 128 || api.MaxTurns != 200 {
		t.Error("the limits are others than those that these tests were written for")
	}
}

func TestScriptByHand(t *testing.T) {
	expectSaid(t, "the sum", []said{
		{"edges", "bad 0"},
		{"= turn", "ok 5"},
		{"= add #0 #1~1", "ok 17"},
		{"= out 1", "ok 23"},
		{"edges", "2"},
		{"bound", "1 1"},
		{"turns 5", "10 : 10"},
		{"machine 1 1 1 2 1 1 9", "ok"},
		{"edges", "2"},
		{"bound", "2 2"},
		{"turns 200", "19900 : 19900"},
		{"machine 0 1 1 1 1 1 1", "?"},
		{"bound", "2 2"},
		{"turns 201", "?"},
		{"fresh", "ok"},
		{"bound", "bad 0"},
		{"= const -3", "ok 9"},
		{"bound", "1 1"},
		{"turns 1", ":"},
	})
}

func TestLinesOfAScript(t *testing.T) {
	expectPlay(t, "the empty script", "", "")
	expectPlay(t, "an empty line", "\n", "?\n")
	expectPlay(t, "two empty lines", "\n\n", "?\n?\n")
	expectPlay(t, "empty lines between", "\nfresh\n\n\nfresh\n\n", "?\nok\n?\n?\nok\n?\n")
	expectPlay(t, "nothing behind the last byte 10", "fresh\n", "ok\n")
	expectPlay(t, "bytes behind the last byte 10", "fresh\nfresh", "ok\nok\n")
	expectPlay(t, "a blank behind it", "fresh\n ", "ok\n?\n")
	expectPlay(t, "no byte 10 at all", "fresh", "ok\n")
	expectPlay(t, "one byte", "x", "?\n")
	expectPlay(t, "text behind the last byte 10", "= turn", "ok 5\n")
	expectPlay(t, "lines that do not end by a byte 10", "fresh\rfresh\vfresh\ffresh\x00fresh\u2028fresh", "?\n")
	expectPlay(t, "two bytes at a line's end", "fresh\r\nfresh\r\n", "?\n?\n")
}

// counted is a script of so many lines of the text, with each how many bytes it has by then.
func counted(lines int) (string, string) {
	script, want := "", ""
	for i := range lines {
		script += "= x\n"
		want += fmt.Sprintf("ok %d\n", 2*(i+1))
	}
	return script, want
}

func TestAtMostSixtyLines(t *testing.T) {
	_, all := counted(60)
	for _, lines := range []int{1, 2, 59, 60, 61, 62, 119, 120, 121, 1000, 10000} {
		script, want := counted(lines)
		if lines > 60 {
			want = all
		}
		expectPlay(t, fmt.Sprintf("%d lines", lines), script, want)
		expectPlay(t, fmt.Sprintf("%d lines, without the last byte 10", lines), strings.TrimSuffix(script, "\n"), want)
		expectPlay(t, fmt.Sprintf("%d empty lines", lines), strings.Repeat("\n", lines), strings.Repeat("?\n", min(lines, 60)))
	}
	ahead, answers := counted(59)
	expectPlay(t, "the line 60", ahead+"fresh", answers+"ok\n")
	expectPlay(t, "the line 60, and an empty one", ahead+"fresh\n\n", answers+"ok\n")
	expectPlay(t, "the line 61", ahead+"fresh\n= y", answers+"ok\n")
	expectPlay(t, "empty lines count", strings.Repeat("\n", 59)+"fresh\nfresh\n", strings.Repeat("?\n", 59)+"ok\n")
}

func TestPuttingTheText(t *testing.T) {
	expectSaid(t, "bytes", []said{
		{"= ", "ok 1"},
		{"=", "?"},
		{"= ", "ok 2"},
		{"=  ", "ok 4"},
		{"=x", "?"},
		{" = x", "?"},
		{"== x", "?"},
		{"=\tx", "?"},
		{"= = x", "ok 8"},
		{"= fresh", "ok 14"},
		{"= \u00e9\u20ac", "ok 20"},
		{"= \x00\xff\xfe", "ok 24"},
		{"= \r", "ok 26"},
		{"= " + strings.Repeat("x", 100000), "ok 100027"},
		{"fresh", "ok"},
		{"= a  b ", "ok 6"},
		{"fresh", "ok"},
		{"fresh", "ok"},
		{"= ", "ok 1"},
	})
}

// What is put must be parsed to the byte: a blank too many, or a byte 10 too few, and it would be another text.
func TestTheTextIsTheBytes(t *testing.T) {
	for _, s := range []string{
		"", "\n", "turn\n", "turn \n", " turn\n", "turn\r\n", "turn\n\n", "\nturn\n", "turn\nout 0\n", "turn\nout 1\n", "turn\nx\nout 0\n", "turn\nout 0\nturn\n", "turn\narray 1\n",
		"array 6\nturn\n", "array 5\n", "array 5\nturn\n", "out 0\n", "turn\nadd #0 #1\n", "turn\nadd #0 #1~1\n", "turn\nadd #0 #1~01\n", "turn\nadd #0 #1~4\n", "= turn\n", "const 9223372036854775808\n", "const -9223372036854775808\n",
		"turn\x00\n", "\xff\n", strings.Repeat("turn\n", 16), strings.Repeat("turn\n", 17), strings.Repeat("turn\n", 50), strings.Repeat("turn\n", 50) + "x\n",
	} {
		_, fault := text.Parse(s)
		for _, line := range []string{"edges", "bound", "build", "turns 0", "turns 200", "turns 201", "turns 999999"} {
			got := lastAnswer(put(s) + line)
			if bad := fmt.Sprintf("bad %d", fault.At); fault.Code != api.OK && got != bad {
				t.Errorf("%s is answered by %q of %s, want %q", line, got, short(s), bad)
			}
			if fault.Code == api.OK && strings.HasPrefix(got, "bad") {
				t.Errorf("%s is answered by %q of %s", line, got, short(s))
			}
		}
	}
}

func TestBadByHand(t *testing.T) {
	for _, line := range []string{"edges", "bound", "build", "turns 0", "turns 5", "turns 200", "turns 201", "turns 999999"} {
		expectSaid(t, line, []said{
			{line, "bad 0"},
			{"= turn", "ok 5"},
			{"= out 1", "ok 11"},
			{line, "bad 2"},
			{"= turn", "ok 16"},
			{line, "bad 2"},
			{"= ", "ok 17"},
			{line, "bad 2"},
			{"fresh", "ok"},
			{line, "bad 0"},
			{"= ", "ok 1"},
			{line, "bad 0"},
			{"fresh", "ok"},
			{"= add #0~1 #0~1 ", "ok 15"},
			{line, "bad 0"},
		})
	}
}

// A line that asks for nothing is none, whatever the text; it does nothing, neither.
func TestOtherLines(t *testing.T) {
	others := []string{
		"", " ", "  ", "?", "ok", "bad", "bad 0", "none", ":", "x", "0", "5", "turn", "out 1", "add #0 #1~1", "array 1", "=", "==",
		"fresh ", " fresh", "fresh x", "fresh 0", "fresh  ", "Fresh", "FRESH", "fres", "freshh", "fresh\t", "fresh\r", "fresh\x00",
		"edges ", " edges", "edges 0", "edges x", "edges 1 2", "Edges", "edge", "edgess", "edges\r",
		"bound ", " bound", "bound 1", "bound x", "Bound", "bounds", "bound\r",
		"build ", " build", "build 1", "build x", "Build", "builds", "build\r", "build build",
		"turns", "turns ", "turns  ", " turns 1", "turns  1", "turns 1 ", "turns 1 2", "turns 1 x", "turns x", "turns1", "turns\t1", "turns 1\r", "turns 1\t", "Turns 1", "turn 1",
		"turns #0", "turns 1,2", "turns 1:", "turns : 1",
		"machine", "machine ", "machine 1", "machine 2 1 1 1 3 2", "machine 2 1 1 1 3 2 ", "machine 2 1 1 1 3 2 32 ", "machine 2 1 1 1 3 2 32 1", "machine 2 1 1 1 3 2 32 1 1", "machine 2 1 1 1 3 2 32 x",
		"machine  2 1 1 1 3 2 32", "machine 2  1 1 1 3 2 32", "machine 2 1 1 1 3 2  32", " machine 2 1 1 1 3 2 32", "Machine 2 1 1 1 3 2 32", "machines 2 1 1 1 3 2 32", "machine\t2 1 1 1 3 2 32", "machine 2,1,1,1,3,2,32", "machine 2 1 1 1 3 2 32\r",
		"machine x 1 1 1 1 1 1", "machine 1 1 1 x 1 1 1", "machine 1 1 1 1 1 1 x", "machine " + strings.Repeat("1 ", 100000) + "1",
		strings.Repeat("x", 100000), strings.Repeat(" ", 100000), strings.Repeat("turns 1 ", 10000), "\x00", "\xff\xfe", "\u00a0", "edges\u00a0", "\u3000fresh",
	}
	for _, line := range others {
		expectSaid(t, "no line", []said{
			{line, "?"},
			{"= x", "ok 2"},
			{line, "?"},
			{"edges", "bad 0"},
			{"fresh", "ok"},
			{line, "?"},
			{"= turn", "ok 5"},
			{"= add #0 #1~1", "ok 17"},
			{"= out 1", "ok 23"},
			{line, "?"},
			{"turns 4", "6 : 6"},
			{"machine 1 1 1 4 4 4 20", "ok"},
			{line, "?"},
			{"bound", "2 4"},
			{"= ", "ok 24"},
		})
	}
}

// noNumbers are words that are no NUMBERs.
func noNumbers() []string {
	return []string{
		"", "-", "+", "-1", "-2", "-0", "+0", "+1", "+2", "00", "01", "02", "007", "000001", "0000001", "1.", "1.0", ".1", "1e0", "1e1", "0x1", "0b1", "0o1", "1_0", "1,0", "x", "1x", "x1", "f",
		"#1", "1~1", "\t1", "1\t", "1\r", "\x001", "1\x00", "\u0661", "\uff11", "1\u00a0", "\xff", "/", ":", "\"1\"", "'1'",
		"1000000", "1000001", "9999999", "2147483648", "4294967297", "9223372036854775807", "9223372036854775808", "18446744073709551617", "18446744073709551618", "-18446744073709551615", "340282366920938463463374607431768211457",
		"1" + strings.Repeat("0", 1000), strings.Repeat("0", 1000) + "1", strings.Repeat("9", 100000),
	}
}

func TestNumbersOfALine(t *testing.T) {
	for _, word := range noNumbers() {
		expectLast(t, "no NUMBER", put(sum), "turns "+word, "?")
		expectLast(t, "no NUMBER, and no loop", "", "turns "+word, "?")
		for at := range 7 {
			numbers := []string{"1", "1", "1", "1", "1", "1", "1"}
			numbers[at] = word
			line := "machine " + strings.Join(numbers, " ")
			expectLast(t, "no NUMBER", "", line, "?")
			expectLast(t, "a machine that stays", put(sum)+line+"\n", "bound", "1 1")
		}
	}
	// Those that are NUMBERs are told apart from the others where there is no loop: there a turn too many is not yet asked for.
	for _, n := range []int{0, 1, 2, 9, 10, 19, 99, 100, 199, 200, 201, 202, 256, 999, 1000, 65536, 65736, 99999, 100000, 199999, 999998, 999999} {
		want := "?"
		if n <= 200 {
			together := max(0, n*(n-1)/2)
			want = fmt.Sprintf("%d : %d", together, together)
		}
		expectLast(t, "turns", put(sum), fmt.Sprintf("turns %d", n), want)
		expectLast(t, "turns, and no loop", "", fmt.Sprintf("turns %d", n), "bad 0")
	}
	for n := range 1000 {
		expectLast(t, "any NUMBER", "", fmt.Sprintf("turns %d", n), "bad 0")
		expectLast(t, "a NUMBER with a 0 ahead", "", fmt.Sprintf("turns 0%d", n), "?")
		expectLast(t, "a number below 0", "", fmt.Sprintf("turns -%d", n), "?")
	}
}

func machineLine(numbers [7]int) string {
	words := []string{"machine"}
	for _, n := range numbers {
		words = append(words, fmt.Sprint(n))
	}
	return strings.Join(words, " ")
}

func TestMachinesThatMayBe(t *testing.T) {
	most := [7]int{4, 4, 4, 6, 6, 6, 128}
	expectLast(t, "the least machine", "", "machine 1 1 1 1 1 1 1", "ok")
	expectLast(t, "the greatest machine", "", machineLine(most), "ok")
	for at := range 7 {
		for _, n := range []int{0, 1, 2, most[at] - 1, most[at], most[at] + 1, most[at] + 2, 1000, 65536, 65537, 999999} {
			numbers := [7]int{1, 1, 1, 1, 1, 1, 1}
			numbers[at] = n
			want := "ok"
			if n < 1 || n > most[at] {
				want = "?"
			}
			expectLast(t, "one number", "", machineLine(numbers), want)
		}
	}
}

// classes are texts with eight statements of one class, plain, mul and memory, of which one looks at itself a turn back: the bounds are the units' and the wait of that class.
func classes() [3]string {
	return [3]string{
		"add #0~1 #0~1\n" + strings.Repeat("turn\n", 7),
		"mul #0~1 #0~1\n" + strings.Repeat("mul #0 #0\n", 7),
		"array 5\nstore 0 1 0 #0~1\n" + strings.Repeat("load 0 1 0\n", 7),
	}
}

func TestMachineAtFirst(t *testing.T) {
	// Eight statements on 2, 1 and 1 units, and waits of 1, 3 and 2.
	want := [3]string{"4 1", "8 3", "8 2"}
	for class, s := range classes() {
		expectLast(t, "the machine at first", put(s), "bound", want[class])
		expectLast(t, "the same one", firstMachine+"\n"+put(s), "bound", want[class])
	}
	first := lastAnswer(put(sum) + "build")
	for _, regs := range []int{31, 32, 33} {
		got := lastAnswer(put(sum) + fmt.Sprintf("machine 2 1 1 1 3 2 %d\nbuild", regs))
		if (got == first) != (regs == 32) {
			t.Errorf("%d registers: %q, and at first %q", regs, got, first)
		}
	}
}

// Each number of a machine goes where it belongs: no two alike where they could be taken for each other.
func TestMachineOfALine(t *testing.T) {
	for _, m := range [][7]int{{1, 2, 4, 3, 5, 6, 30}, {4, 1, 2, 6, 2, 5, 128}, {2, 4, 1, 4, 6, 3, 77}} {
		for class, s := range classes() {
			want := fmt.Sprintf("%d %d", 8/m[class], m[3+class])
			expectLast(t, "bounds", machineLine(m)+"\n"+put(s), "bound", want)
			expectLast(t, "bounds, the machine last", put(s)+machineLine(m)+"\n", "bound", want)
			expectLast(t, "fresh keeps the machine", machineLine(m)+"\nfresh\n"+put(s), "bound", want)
		}
	}
}

// A machine that may not be changes nothing at all of the one that there is.
func TestMachineStays(t *testing.T) {
	some := "machine 1 2 4 3 5 6 40\n"
	for at := range 7 {
		for _, n := range []int{0, 129, 999999} {
			numbers := [7]int{3, 3, 3, 2, 2, 2, 100}
			numbers[at] = n
			ahead := some + machineLine(numbers) + "\n"
			for _, s := range classes() {
				expectLast(t, "bound", ahead+put(s), "bound", lastAnswer(some+put(s)+"bound"))
				expectLast(t, "build", ahead+put(s), "build", lastAnswer(some+put(s)+"build"))
				expectLast(t, "bound, at first", machineLine(numbers)+"\n"+put(s), "bound", lastAnswer(put(s)+"bound"))
				expectLast(t, "build, at first", machineLine(numbers)+"\n"+put(s), "build", lastAnswer(put(s)+"build"))
			}
		}
	}
	expectSaid(t, "the first three need no loop", []said{{"= x", "ok 2"}, {"machine 1 1 1 1 1 1 1", "ok"}, {"machine 1 1 1 1 1 1 0", "?"}, {"fresh", "ok"}})
}

func TestEdgesByHand(t *testing.T) {
	for _, c := range []struct{ text, want string }{
		{"turn\n", "0"},
		{"turn\nturn\nout 0\n", "0"},
		{sum, "2"},
		{"add #0~1 #0~1\n", "1"},
		{"add #0~1 #0~2\n", "2"},
		{"array 0\nload 0 0 0\nload 0 0 0\n", "0"},
		// Each waits for the other one, and the store for itself; the result is one edge more.
		{"array 0\nload 0 0 0\nstore 0 0 0 #0\n", "4"},
		{"array 0\narray 0\nload 0 0 0\nstore 1 0 0 #0\n", "2"},
	} {
		expectLast(t, "edges", put(c.text), "edges", c.want)
	}
}

// builtOf is what a text's kernel is, on the machine that there is at first but for its registers.
func builtOf(t *testing.T, s string, regs int) (api.Loop, api.Target, api.Kernel, []int, api.Errno) {
	t.Helper()
	l, fault := text.Parse(s)
	if fault.Code != api.OK {
		t.Fatalf("no loop: %q", s)
	}
	m := api.Target{Units: [3]int{2, 1, 1}, Wait: [3]int{1, 3, 2}, Regs: regs}
	k, order, code := build.Build(l, m)
	return l, m, k, order, code
}

func TestBuildTellsTheKernel(t *testing.T) {
	texts := slices.Concat(some(), []string{sum, "turn\n", "const 5\nout 0\n"})
	for _, s := range texts {
		for _, regs := range []int{32, 90, 128} {
			l, m, k, order, code := builtOf(t, s, regs)
			got := lastAnswer(put(s) + fmt.Sprintf("machine 2 1 1 1 3 2 %d\nbuild", regs))
			if code != api.OK {
				if got != "none" {
					t.Errorf("%q, where there is none, of %q", got, s)
				}
				continue
			}
			words := strings.Split(got, " ")
			if len(words) != 2+3*len(l.Body) {
				t.Fatalf("%q of %q", got, s)
			}
			numbers := []int{}
			for _, word := range words {
				n := -1
				fmt.Sscan(word, &n)
				numbers = append(numbers, n)
			}
			// What is told is enough to know the kernel by: with these numbers it is taken.
			k.Pace, k.Stages = numbers[0], numbers[1]
			for i := range k.Ops {
				k.Ops[i].Slot, k.Ops[i].Stage, k.Ops[i].Dest = numbers[2+3*i], numbers[3+3*i], numbers[4+3*i]
			}
			if !check.Takes(l, m, k, order) {
				t.Errorf("not taken: %q of %q", got, s)
			}
			if again, _, _ := build.Build(l, m); again.Pace != k.Pace || again.Stages != k.Stages || !slices.Equal(again.Ops, k.Ops) {
				t.Errorf("%q, want %+v, of %q", got, again, s)
			}
		}
	}
	if got := lastAnswer(put("turn\n") + "build"); got != "1 1 0 0 0" {
		t.Errorf("one statement: %q", got)
	}
	if got := lastAnswer(put(sum) + "build"); !strings.HasPrefix(got, "1 2 0 0 ") {
		t.Errorf("the sum: %q", got)
	}
}

// some are texts of loops of several kinds.
func some() []string {
	return []string{
		"turn\nturn\nadd #0 #1\nout 2\n",
		"array 2\nload 0 1 0\nturn\nadd #0 #1\nstore 0 1 1 #2\nout 2\nout 3\n",
		"array 0\nload 0 0 0\nconst 3\nadd #0 #1\nstore 0 0 0 #2\nout 2\n",
		"const 1\nadd #1~1 #2~1\nsame #1~3 #1~1\nmul #1 #1\nout 1\nout 2\nout 3\n",
		"array 3\narray 1\nturn\nstore 0 3 -1 #0\nload 0 1 5\nless #2 #0\nstore 1 1 0 #3\nload 1 1 1\nxor #5 #6~2\nout 2\nout 5\nout 6\n",
	}
}

func TestTurnsByHand(t *testing.T) {
	for _, c := range []struct{ text, line, want string }{
		{sum, "turns 0", "0 : 0"},
		{sum, "turns 1", "0 : 0"},
		{sum, "turns 2", "1 : 1"},
		{sum, "turns 200", "19900 : 19900"},
		{"const 7\nout 0\n", "turns 0", "0 : 0"},
		{"const 7\nout 0\n", "turns 1", "7 : 7"},
		{"const -7\nconst 9\nturn\nout 0\nout 1\nout 2\n", "turns 3", "-7 9 2 : -7 9 2"},
		{"const -7\nconst 9\nturn\nout 1\n", "turns 3", "9 : 9"},
		{"const -9223372036854775808\nconst 9223372036854775807\nout 0\nout 1\n", "turns 1", "-9223372036854775808 9223372036854775807 : -9223372036854775808 9223372036854775807"},
		{"const 1\nsub #1~1 #0\nout 1\n", "turns 200", "-200 : -200"},
		// A word of an array, with zeros at first, to which 3 are added each turn.
		{"array 0\nload 0 0 0\nconst 3\nadd #0 #1\nstore 0 0 0 #2\nout 2\n", "turns 5", "15 : 15"},
		// Four words, one after the other: each is met again every fourth turn.
		{"array 2\nload 0 1 0\nturn\nadd #0 #1\nstore 0 1 0 #2\nout 2\n", "turns 10", "15 : 15"},
		// What is stored in a turn is loaded two turns on.
		{"array 3\nturn\nstore 0 1 2 #0\nload 0 1 0\nout 2\n", "turns 10", "7 : 7"},
		// 1, 1, 2, 3, 5, 8: each the last two together, and 1 in the first turn.
		{"turn\nconst 1\nless #0 #1\nadd #4~1 #4~2\nadd #3 #2\nout 4\n", "turns 6", "8 : 8"},
		{"turn\nout 0\n", "turns 200", "199 : 199"},
		{"turn\n", "turns 0", ":"},
		{"turn\n", "turns 7", ":"},
		{"turn\n", "turns 200", ":"},
		{"turn\n", "turns 201", "?"},
		{"array 5\nload 0 1 0\nstore 0 2 0 #0\n", "turns 9", ":"},
	} {
		expectLast(t, "turns", put(c.text), c.line, c.want)
	}
}

// Turns begin with zeros each time: what one line comes to is not there for the next one.
func TestTurnsAreNotKept(t *testing.T) {
	expectSaid(t, "words", []said{
		{"= array 0", "ok 8"},
		{"= load 0 0 0", "ok 19"},
		{"= const 3", "ok 27"},
		{"= add #0 #1", "ok 37"},
		{"= store 0 0 0 #2", "ok 52"},
		{"= add #4~1 #1", "ok 64"},
		{"= out 2", "ok 70"},
		{"= out 4", "ok 76"},
		{"turns 5", "15 15 : 15 15"},
		{"turns 5", "15 15 : 15 15"},
		{"turns 0", "0 0 : 0 0"},
		{"turns 1", "3 3 : 3 3"},
	})
}

func TestTooFewRegisters(t *testing.T) {
	expectSaid(t, "one register", []said{
		{"machine 2 1 1 1 3 2 1", "ok"},
		{"build", "bad 0"},
		{"turns 3", "bad 0"},
		{"= turn", "ok 5"},
		{"= add #0 #1~1", "ok 17"},
		{"= out 1", "ok 23"},
		{"edges", "2"},
		{"bound", "1 1"},
		{"build", "none"},
		{"turns 0", "none"},
		{"turns 3", "none"},
		{"turns 200", "none"},
		{"turns 201", "?"},
		{"turns 999999", "?"},
		{"turns", "?"},
		{"machine 2 1 1 1 3 2 32", "ok"},
		{"turns 3", "3 : 3"},
		{"turns 0", "0 : 0"},
	})
	expectSaid(t, "two statements that look back three turns, three registers, no Outs", []said{
		{"machine 1 1 1 1 1 1 3", "ok"},
		{"= add #0~3 #1~3", "ok 14"},
		{"= add #0~3 #1~3", "ok 28"},
		{"bound", "2 1"},
		{"build", "none"},
		{"turns 0", "none"},
		{"turns 1", "none"},
	})
}

// Nothing is kept from one script to the next, and the same script has the same answer.
func TestScriptsAreApart(t *testing.T) {
	one, other := put(sum)+"machine 1 1 1 6 6 6 128\nbuild\nturns 9\n", "edges\nbound\n= turn\nadd\nbound\nbuild\n"
	first, second := Play(one), Play(other)
	for range 20 {
		expectPlay(t, "the one", one, first)
		expectPlay(t, "the other", other, second)
	}
	if !strings.HasPrefix(second, "bad 0\nbad 0\nok 5\n?\n1 1\n") {
		t.Errorf("%q", second)
	}
}

// The answer to a beginning that ends with a byte 10 is the beginning of the answer, with as many lines as that has, up to 60.
func expectBeginnings(t *testing.T, script string) {
	t.Helper()
	whole := Play(script)
	for at := range script {
		if script[at] != '\n' {
			continue
		}
		begin := script[:at+1]
		got := Play(begin)
		if !strings.HasPrefix(whole, got) || strings.Count(got, "\n") != min(60, strings.Count(begin, "\n")) {
			t.Errorf("%s of %s, and %s of %s", short(got), short(begin), short(whole), short(script))
		}
	}
}

func TestBeginnings(t *testing.T) {
	expectBeginnings(t, "")
	expectBeginnings(t, "\n\n\n")
	expectBeginnings(t, "edges\n= turn\n= add #0 #1~1\n= out 1\nedges\nbound\nturns 5\nmachine 0 1 1 1 1 1 1\nturns 201\nfresh\nbound")
	expectBeginnings(t, put(some()[4])+"edges\nbound\nbuild\nmachine 1 1 1 6 6 6 90\nbuild\nturns 20\nfresh\n= turn\nturns 3\n")
	long, _ := counted(80)
	expectBeginnings(t, long)
	expectBeginnings(t, strings.Repeat("= turn\nbound\n", 40))
	expectBeginnings(t, strings.Repeat("\n", 70))
}

func TestLongScripts(t *testing.T) {
	long := strings.Repeat("turn", 1<<20)
	expectPlay(t, "one long line", long, "?\n")
	expectPlay(t, "a long text", "= "+long+"\nbound\nturns 1\n", fmt.Sprintf("ok %d\nbad 0\nbad 0\n", len(long)+1))
	expectPlay(t, "many lines that do not count", "bound\n"+strings.Repeat("fresh\n", 1<<20), "bad 0\n"+strings.Repeat("ok\n", 59))
	expectPlay(t, "a long number", "turns "+strings.Repeat("1", 1<<20)+"\n", "?\n")
}

func TestToldNumbers(t *testing.T) {
	expect := func(got []string, want ...string) {
		t.Helper()
		if !slices.Equal(got, want) {
			t.Errorf("%q, want %q", got, want)
		}
	}
	expect(told[int]())
	expect(told(0), "0")
	expect(told(1, -2, 30), "1", "-2", "30")
	expect(told[int64](math.MinInt64, math.MaxInt64), "-9223372036854775808", "9223372036854775807")
}
