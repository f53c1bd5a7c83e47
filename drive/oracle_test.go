package drive

import (
	"fmt"
	"math/rand"
	"regexp"
	"strconv"
	"strings"
	"testing"

	"roundelay/api"
	"roundelay/bound"
	"roundelay/build"
	"roundelay/check"
	"roundelay/dep"
	"roundelay/kernel"
	"roundelay/seq"
	"roundelay/text"
)

// The oracle reads lines by patterns, and keeps all of a script's state in texts.
const numberPattern = `(0|[1-9][0-9]{0,5})`

var (
	putLine     = regexp.MustCompile(`(?s)\A= (.*)\z`)
	machineForm = regexp.MustCompile(`\Amachine` + strings.Repeat(" "+numberPattern, 7) + `\z`)
	turnsForm   = regexp.MustCompile(`\Aturns ` + numberPattern + `\z`)
	plainAsk    = regexp.MustCompile(`\A(edges|bound|build)\z`)
)

type oracle struct {
	lines []string
	m     api.Target
}

// oraclePlay answers the lines one by one.
func oraclePlay(script string) string {
	lines := strings.Split(script, "\n")
	if lines[len(lines)-1] == "" {
		lines = lines[:len(lines)-1]
	}
	o := &oracle{m: api.Target{Units: [3]int{2, 1, 1}, Wait: [3]int{1, 3, 2}, Regs: 32}}
	answers := ""
	for at, line := range lines {
		if at < 60 {
			answers += o.answer(line) + "\n"
		}
	}
	return answers
}

func (o *oracle) answer(line string) string {
	if found := putLine.FindStringSubmatch(line); found != nil {
		o.lines = append(o.lines, found[1])
		return fmt.Sprintf("ok %d", len(strings.Join(o.lines, "\n"))+1)
	}
	if line == "fresh" {
		o.lines = nil
		return "ok"
	}
	if found := machineForm.FindStringSubmatch(line); found != nil {
		return o.take(found[1:])
	}
	turns := turnsForm.FindStringSubmatch(line)
	if turns == nil && !plainAsk.MatchString(line) {
		return "?"
	}
	all := ""
	for _, own := range o.lines {
		all += own + "\n"
	}
	l, fault := text.Parse(all)
	switch {
	case fault.Code != api.OK:
		return fmt.Sprintf("bad %d", fault.At)
	case turns != nil:
		n, _ := strconv.Atoi(turns[1])
		return o.turns(l, n)
	}
	return o.ask(line, l)
}

func (o *oracle) take(words []string) string {
	n := [7]int{}
	most := [7]int{4, 4, 4, 6, 6, 6, 128}
	for i, word := range words {
		n[i], _ = strconv.Atoi(word)
		if n[i] < 1 || n[i] > most[i] {
			return "?"
		}
	}
	o.m = api.Target{Units: [3]int{n[0], n[1], n[2]}, Wait: [3]int{n[3], n[4], n[5]}, Regs: n[6]}
	return "ok"
}

func (o *oracle) ask(line string, l api.Loop) string {
	switch line {
	case "edges":
		edges, _ := dep.Edges(l, o.m)
		return fmt.Sprint(len(edges))
	case "bound":
		units, rounds, _ := bound.Bound(l, o.m)
		return fmt.Sprintf("%d %d", units, rounds)
	}
	k, _, code := build.Build(l, o.m)
	if code != api.OK {
		return "none"
	}
	answer := fmt.Sprintf("%d %d", k.Pace, k.Stages)
	for _, op := range k.Ops {
		answer += fmt.Sprintf(" %d %d %d", op.Slot, op.Stage, op.Dest)
	}
	return answer
}

func (o *oracle) turns(l api.Loop, turns int) string {
	if turns > 200 {
		return "?"
	}
	k, order, code := build.Build(l, o.m)
	if code != api.OK {
		return "none"
	}
	state := api.State{Before: make([][]int64, len(l.Body)), Memory: make([][]int64, len(l.Logs))}
	for i := range state.Before {
		state.Before[i] = []int64{0, 0, 0}
	}
	for i, log := range l.Logs {
		state.Memory[i] = make([]int64, []int{1, 2, 4, 8, 16, 32}[log])
	}
	res, _ := seq.Run(l, state, turns)
	file, _ := check.Enter(l, o.m, k, order, state.Before)
	file, _, _ = kernel.Run(o.m, k, file, state.Memory, turns)
	outs, _ := check.Leave(l, o.m, k, order, state.Before, file, turns)
	left, right := "", ""
	for i := range res.Outs {
		left += fmt.Sprintf("%d ", res.Outs[i])
		right += fmt.Sprintf(" %d", outs[i])
	}
	return left + ":" + right
}

func anyRef(g *rand.Rand, at, body int) string {
	if at > 0 && g.Intn(2) == 0 {
		return fmt.Sprintf("#%d", g.Intn(at))
	}
	return fmt.Sprintf("#%d~%d", g.Intn(body), 1+g.Intn(3))
}

// anyText is mostly that of a loop that may be.
func anyText(g *rand.Rand) string {
	arrays, body := g.Intn(3), 1+g.Intn(6)
	s := ""
	for range arrays {
		s += fmt.Sprintf("array %d\n", g.Intn(6))
	}
	words := []string{"add", "sub", "mul", "and", "or", "xor", "less", "same"}
	for at := range body {
		switch kind := g.Intn(6); {
		case kind == 0:
			s += fmt.Sprintf("const %d\n", int64(g.Uint64())>>g.Intn(64))
		case kind == 1:
			s += "turn\n"
		case kind == 2 && arrays > 0:
			s += fmt.Sprintf("load %d %d %d\n", g.Intn(arrays), g.Intn(129)-64, g.Intn(129)-64)
		case kind == 3 && arrays > 0:
			s += fmt.Sprintf("store %d %d %d %s\n", g.Intn(arrays), g.Intn(129)-64, g.Intn(129)-64, anyRef(g, at, body))
		default:
			s += fmt.Sprintf("%s %s %s\n", words[g.Intn(8)], anyRef(g, at, body), anyRef(g, at, body))
		}
	}
	for at := range body + g.Intn(20)/19 {
		if g.Intn(2) == 0 {
			s += fmt.Sprintf("out %d\n", at)
		}
	}
	return s
}

func anyMachine(g *rand.Rand) string {
	high := 6
	if g.Intn(4) == 0 {
		high = 8
	}
	line := "machine"
	for range 6 {
		line += fmt.Sprintf(" %d", 1+g.Intn(high)*2/3)
	}
	return line + fmt.Sprintf(" %d", 1+g.Intn(131))
}

// anyLine asks for something, mostly.
func anyLine(g *rand.Rand) string {
	switch g.Intn(10) {
	case 0:
		return anyMachine(g)
	case 1:
		return "edges"
	case 2:
		return "bound"
	case 3, 4:
		return "build"
	case 5, 6:
		return fmt.Sprintf("turns %d", g.Intn(210))
	case 7:
		return fmt.Sprintf("turns %d", g.Intn(10))
	case 8:
		return []string{"= x", "= ", "=", "", "turns", "turns 201", "turns 999999", "turns 1000000", "turns 01", "turns -1", "fresh ", "edges 1", "machine 1 1 1 1 1 1"}[g.Intn(13)]
	}
	return "fresh\n" + strings.TrimSuffix(put(anyText(g)), "\n")
}

func anyScript(g *rand.Rand) string {
	lines := []string{}
	for range g.Intn(20) {
		lines = append(lines, anyLine(g))
	}
	return strings.TrimSuffix(put(anyText(g)), "\n") + "\n" + strings.Join(lines, "\n")
}

// changed is a script with a byte or a line of it other, gone, or twice there.
func changed(g *rand.Rand, s string) string {
	if s == "" {
		return "\n"
	}
	at := g.Intn(len(s))
	some := string("0129-=~# \nxa\x00\xff"[g.Intn(14)])
	switch g.Intn(4) {
	case 0:
		return s[:at] + s[at+1:]
	case 1:
		return s[:at] + some + s[at:]
	case 2:
		return s[:at] + some + s[at+1:]
	}
	lines := strings.Split(s, "\n")
	a, b := g.Intn(len(lines)), g.Intn(len(lines))
	lines[a], lines[b] = lines[b], lines[a]
	return strings.Join(lines, "\n")
}

// kindOf is what an answer begins with; numbers are all alike.
func kindOf(answer string) string {
	word, _, _ := strings.Cut(answer, " ")
	if _, err := strconv.ParseInt(word, 10, 64); err == nil {
		return "numbers"
	}
	return word
}

func TestAnyScriptAsTheOracleTells(t *testing.T) {
	kinds := map[string]int{}
	for seed := range int64(3000) {
		g := rand.New(rand.NewSource(seed))
		script := anyScript(g)
		for range g.Intn(3) {
			script = changed(g, script)
		}
		want := oraclePlay(script)
		expectPlay(t, "any script", script, want)
		for line := range strings.Lines(want) {
			kinds[kindOf(strings.TrimSuffix(line, "\n"))]++
		}
		if seed%10 == 0 {
			expectBeginnings(t, script)
		}
	}
	for _, kind := range []string{"ok", "bad", "?", "none", ":", "numbers"} {
		if kinds[kind] < 50 {
			t.Errorf("too little was tried: %v", kinds)
		}
	}
}

// What turns come to is the same on both sides of the colon.
func TestBothSidesAreTheSame(t *testing.T) {
	sides := 0
	for seed := range int64(3000) {
		g := rand.New(rand.NewSource(seed))
		answer := lastAnswer(anyMachine(g) + "\n" + put(anyText(g)) + fmt.Sprintf("turns %d", g.Intn(201)))
		if !strings.Contains(answer, ":") {
			continue
		}
		sides++
		left, right, _ := strings.Cut(answer, ":")
		if strings.TrimSuffix(left, " ") != strings.TrimPrefix(right, " ") {
			t.Errorf("%q", answer)
		}
	}
	if sides < 1000 {
		t.Errorf("too little was tried: %d", sides)
	}
}

// No byte of a line is there in vain.
func TestEachByteOfALineCounts(t *testing.T) {
	for _, line := range []string{"= turn", "fresh", firstMachine, "edges", "bound", "build", "turns 10"} {
		for at := range len(line) + 1 {
			for b := range 256 {
				some := string([]byte{byte(b)})
				others := []string{line[:at] + some + line[at:]}
				if at < len(line) {
					others = append(others, line[:at]+some+line[at+1:], line[:at]+line[at+1:])
				}
				for _, other := range others {
					for _, ahead := range []string{"", put(sum)} {
						script := ahead + other + "\nbound\n"
						expectPlay(t, "a byte", script, oraclePlay(script))
					}
				}
			}
		}
	}
}
