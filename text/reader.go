package text

import (
	"strings"

	"roundelay/api"
)

// mostWords is how many words a line has at most, that of a store.
const mostWords = 5

// reader is a loop, as far as its lines have been read.
type reader struct {
	api.Loop
}

// read takes the next line, and tells whether it is one and may stand there.
func (r *reader) read(line string) bool {
	// One word too many tells as much as all of them.
	words := strings.SplitN(line, " ", mostWords+1)
	switch words[0] {
	case "array":
		return r.readArray(words)
	case "out":
		return r.readOut(words)
	}
	return r.readStmt(words)
}

func (r *reader) readArray(words []string) bool {
	log, ok := onlyNumber(words)
	if !ok || len(r.Body) > 0 || len(r.Outs) > 0 {
		return false
	}
	r.Logs = kept(r.Logs, log, api.MaxArrays)
	return true
}

func (r *reader) readStmt(words []string) bool {
	s, ok := stmtOf(words)
	if !ok || len(r.Outs) > 0 {
		return false
	}
	r.Body = kept(r.Body, s, api.MaxBody)
	return true
}

func (r *reader) readOut(words []string) bool {
	at, ok := onlyNumber(words)
	if !ok {
		return false
	}
	r.Outs = kept(r.Outs, at, api.MaxBody)
	return true
}

// onlyNumber tells the number that is all that follows a line's first word.
func onlyNumber(words []string) (int, bool) {
	if len(words) != 2 {
		return 0, false
	}
	return shortOf(words[1])
}

// kept is a list with one item more, but with at most one beyond its limit: that one is enough to tell that the loop may not be, however many lines there are.
func kept[T any](list []T, item T, limit int) []T {
	if len(list) > limit {
		return list
	}
	return append(list, item)
}
