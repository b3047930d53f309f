package consoles

import (
	"strings"

	"paternoster/api"
	"paternoster/plain"
)

// Whether a line has a text.
const (
	noText uint8 = iota
	mayText
	needsText
)

// form is what belongs to a word: a number from 0 on for each n, and any number for
// each v.
type form struct {
	numbers string
	again   string // what may follow any number of times
	text    uint8
}

// forms returns what belongs to a word.
func forms(word string) (form, bool) {
	switch word {
	case "new", "text", "list", "offset", "rows", "lines", "seen", "counts", "dom", "pools", "answers", "cost",
		"audit", "compare", "caught", "report", "bound":
		return form{}, true
	case "view", "over", "least", "arena", "to", "by", "resize", "trim":
		return form{numbers: "v"}, true
	case "flaw", "reveal", "mutant", "cut", "drop":
		return form{numbers: "n"}, true
	case "base", "pool":
		return form{numbers: "nv"}, true
	case "insert":
		return form{numbers: "nnn", again: "n"}, true
	case "remove":
		return form{numbers: "nn"}, true
	case "move":
		return form{numbers: "nnv"}, true
	case "change":
		return form{numbers: "nnn", text: mayText}, true
	case "reset":
		return form{numbers: "n", again: "n"}, true
	case "measured":
		return form{numbers: "nv", again: "nv"}, true
	case "heights":
		return form{again: "nv"}, true
	case "load":
		return form{text: needsText}, true
	}
	return form{}, false
}

// Parse returns what a line consists of. (P45.2)
func Parse(line string) (Call, api.Errno) {
	if len(line) > MaxLine {
		return Call{}, api.ErrLimit
	}
	for i := range len(line) {
		if !plain.TextByte(line[i]) {
			return Call{}, api.ErrForm
		}
	}
	word, rest, more := strings.Cut(line, " ")
	f, known := forms(word)
	call := Call{Word: word}
	wanted := f.numbers
fields:
	for {
		if wanted == "" {
			if f.again == "" || !more {
				break fields
			}
			wanted = f.again
		}
		if !more || len(call.N) == MaxNumbers {
			return Call{}, api.ErrForm
		}
		var field string
		field, rest, more = strings.Cut(rest, " ")
		n, ok := number(field, wanted[0] == 'v')
		if !ok {
			return Call{}, api.ErrForm
		}
		call.N = append(call.N, n)
		wanted = wanted[1:]
	}
	switch {
	case !known, f.text == noText && more, f.text == needsText && !more, f.text == mayText && strings.Contains(rest, "|"):
		return Call{}, api.ErrForm
	}
	call.N = call.N[:len(call.N):len(call.N)]
	call.Text = rest
	return call, api.OK
}

// number returns a number of at most 18 digits, which may be negative or not.
func number(s string, negative bool) (int64, bool) {
	n, ok := plain.Int(s)
	return n, ok && (n >= 0 || negative) && len(strings.TrimPrefix(s, "-")) <= 18
}
