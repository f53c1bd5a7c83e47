package text

import (
	"strconv"
	"strings"

	"roundelay/api"
)

// opWords are of OpAdd to OpSame, in their order.
var opWords = [...]string{"add", "sub", "mul", "and", "or", "xor", "less", "same"}

// pastShort is the least number above 0 that has more than 18 digits.
const pastShort int64 = 1_000_000_000_000_000_000

// stmtWords are the words of the line of a statement that may be.
func stmtWords(s api.Stmt) []string {
	switch s.Op {
	case api.LConst:
		return []string{"const", strconv.FormatInt(s.N, 10)}
	case api.LTurn:
		return []string{"turn"}
	case api.LLoad:
		return []string{"load", written(s.Array), written(s.Step), written(s.Plus)}
	case api.LStore:
		return []string{"store", written(s.Array), written(s.Step), written(s.Plus), refWritten(s.A)}
	}
	return []string{opWords[s.Op-api.LOp-api.OpAdd], refWritten(s.A), refWritten(s.B)}
}

// stmtOf tells the statement whose line has these words.
func stmtOf(words []string) (api.Stmt, bool) {
	word, rest := words[0], words[1:]
	switch {
	case word == "const" && len(rest) == 1:
		n, ok := numberOf(rest[0])
		return api.Stmt{Op: api.LConst, N: n}, ok
	case word == "turn" && len(rest) == 0:
		return api.Stmt{Op: api.LTurn}, true
	case word == "load" && len(rest) == 3:
		return memoryOf(api.LLoad, rest)
	case word == "store" && len(rest) == 4:
		s, ok := memoryOf(api.LStore, rest[:3])
		a, isRef := refOf(rest[3])
		s.A = a
		return s, ok && isRef
	case len(rest) == 2:
		op, ok := opOf(word)
		a, isRefA := refOf(rest[0])
		b, isRefB := refOf(rest[1])
		return api.Stmt{Op: op, A: a, B: b}, ok && isRefA && isRefB
	}
	return api.Stmt{}, false
}

// memoryOf is a statement with that Op, and with Array, Step and Plus of three words.
func memoryOf(op int, words []string) (api.Stmt, bool) {
	array, isArray := shortOf(words[0])
	step, isStep := shortOf(words[1])
	plus, isPlus := shortOf(words[2])
	return api.Stmt{Op: op, Array: array, Step: step, Plus: plus}, isArray && isStep && isPlus
}

// opOf tells the Op of a statement whose word is that of an operation of two numbers.
func opOf(word string) (int, bool) {
	for i, own := range opWords {
		if own == word {
			return api.LOp + api.OpAdd + i, true
		}
	}
	return 0, false
}

func refWritten(r api.Ref) string {
	if r.Back == 0 {
		return "#" + written(r.At)
	}
	return "#" + written(r.At) + "~" + written(r.Back)
}

func refOf(word string) (api.Ref, bool) {
	named, isRef := strings.CutPrefix(word, "#")
	first, second, looksBack := strings.Cut(named, "~")
	at, isAt := shortOf(first)
	if !looksBack {
		return api.Ref{At: at}, isRef && isAt
	}
	back, isBack := shortOf(second)
	return api.Ref{At: at, Back: back}, isRef && isAt && isBack && back > 0
}

func written(n int) string {
	return strconv.Itoa(n)
}

// shortOf tells the number of up to 18 digits that is written so.
func shortOf(word string) (int, bool) {
	n, ok := numberOf(word)
	return int(n), ok && -pastShort < n && n < pastShort
}

// numberOf tells the number of 64 bits that is written so.
func numberOf(word string) (int64, bool) {
	n, err := strconv.ParseInt(word, 10, 64)
	// A number is written in one way alone, and more are taken for it: a + or a 0 ahead, a - ahead of 0.
	return n, err == nil && strconv.FormatInt(n, 10) == word
}
