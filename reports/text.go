package reports

import (
	"math"
	"slices"
	"strconv"
	"strings"

	"paternoster/api"
	"paternoster/audits"
	"paternoster/costs"
	"paternoster/plain"
	"paternoster/snapshots"
)

// Text returns the text of a report. (P44.2)
func Text(r Report) (string, api.Errno) {
	if r.Finding.What != "" && !letters(r.Finding.What) {
		return "", api.ErrForm
	}
	var out strings.Builder
	put := func(word string, numbers ...int64) {
		out.WriteString(word)
		for _, n := range numbers {
			out.WriteString(" " + strconv.FormatInt(n, 10))
		}
		out.WriteString("\n")
	}
	put("answers", wide(r.Answers)...)
	put("view", r.View)
	put("offset", r.Offset)
	put("total", r.Total)
	put("items", int64(r.Items), int64(r.Known))
	var cost []int64
	for _, number := range numbers(&r.Cost) {
		cost = append(cost, int64(*number))
	}
	put("cost", cost...)
	put("rules", wide(r.Rules)...)
	if r.Finding.What == "" {
		put("same")
	} else {
		out.WriteString("differ " + strconv.Itoa(r.Finding.At) + " " + r.Finding.What + "\n")
	}
	for _, l := range r.Lines {
		out.WriteString(line(l))
	}
	if out.Len() > api.MaxText {
		return "", api.ErrLimit
	}
	return out.String(), api.OK
}

// Parse returns the report with a text. (P44.3)
func Parse(t string) (r Report, line int, e api.Errno) {
	if len(t) > api.MaxText {
		return Report{}, 0, api.ErrLimit
	}
	readers := [...]func(r *Report, fields []string) bool{answers, view, offset, total, counts, cost, rules, finding}
	for rest := t; rest != "" || line < len(readers); {
		text, more, ended := strings.Cut(rest, "\n")
		read := row
		if line < len(readers) {
			read = readers[line]
		}
		line++
		if !ended || !read(&r, strings.Split(text, " ")) {
			return Report{}, line, api.ErrForm
		}
		rest = more
	}
	r.Lines = slices.Clip(r.Lines)
	return r, 0, api.OK
}

// letters reports whether all bytes are from a to z.
func letters(s string) bool {
	return !strings.ContainsFunc(s, func(c rune) bool { return c < 'a' || c > 'z' })
}

// wide returns numbers as those of the widest type.
func wide[T ~int | ~uint8](l []T) []int64 {
	var out []int64
	for _, n := range l {
		out = append(out, int64(n))
	}
	return out
}

// numbers returns pointers to all numbers of a cost.
func numbers(c *costs.Cost) [11]*int {
	return [...]*int{&c.Created, &c.Freed, &c.Inserted, &c.Removed, &c.Moved, &c.Wrote, &c.Placed, &c.Rounds, &c.Rebound, &c.Made, &c.Dropped}
}

// line returns the line of a row.
func line(l snapshots.Line) string {
	pinned := " free "
	if l.Pinned {
		pinned = " pinned "
	}
	return "line " + strconv.FormatUint(l.Key, 10) + " " + strconv.Itoa(int(l.Type)) + " " + strconv.FormatInt(l.Top, 10) + " " +
		strconv.FormatInt(l.Size, 10) + pinned + strconv.Itoa(l.Nodes) + "\n"
}

// long reads the field i as a number.
func long(fields []string, i int, to *int64) (ok bool) {
	*to, ok = plain.Int(fields[i])
	return ok
}

// short reads the field i as a number that has to fit into an int.
func short(fields []string, i int, to *int) bool {
	n, ok := plain.Int(fields[i])
	*to = int(n)
	return ok && int64(*to) == n
}

// byteNumber reads the field i as a number that has to fit into a byte.
func byteNumber(fields []string, i int, to *uint8) bool {
	n, ok := plain.Uint(fields[i], math.MaxUint8)
	*to = uint8(n)
	return ok
}

// is reports whether a line has a word and n fields behind it.
func is(fields []string, word string, n int) bool { return len(fields) == 1+n && fields[0] == word }

func answers(r *Report, fields []string) bool {
	r.Answers = make([]api.Errno, len(fields)-1)
	for i := range len(r.Answers) {
		var n int
		if !short(fields, i+1, &n) {
			return false
		}
		r.Answers[i] = api.Errno(n)
	}
	return fields[0] == "answers"
}

func view(r *Report, fields []string) bool { return is(fields, "view", 1) && long(fields, 1, &r.View) }
func offset(r *Report, fields []string) bool {
	return is(fields, "offset", 1) && long(fields, 1, &r.Offset)
}
func total(r *Report, fields []string) bool {
	return is(fields, "total", 1) && long(fields, 1, &r.Total)
}

func counts(r *Report, fields []string) bool {
	return is(fields, "items", 2) && short(fields, 1, &r.Items) && short(fields, 2, &r.Known)
}

func cost(r *Report, fields []string) bool {
	to := numbers(&r.Cost)
	if !is(fields, "cost", len(to)) {
		return false
	}
	for i := range len(to) {
		if !short(fields, i+1, to[i]) {
			return false
		}
	}
	return true
}

func rules(r *Report, fields []string) bool {
	r.Rules = make([]audits.Rule, len(fields)-1)
	for i := range len(r.Rules) {
		var n uint8
		if !byteNumber(fields, i+1, &n) {
			return false
		}
		r.Rules[i] = audits.Rule(n)
	}
	return fields[0] == "rules"
}

func finding(r *Report, fields []string) bool {
	if is(fields, "same", 0) {
		return true
	}
	if !is(fields, "differ", 2) || fields[2] == "" || !letters(fields[2]) {
		return false
	}
	r.Finding.What = fields[2]
	return short(fields, 1, &r.Finding.At)
}

func row(r *Report, fields []string) bool {
	if !is(fields, "line", 6) || fields[5] != "pinned" && fields[5] != "free" {
		return false
	}
	l := snapshots.Line{Pinned: fields[5] == "pinned"}
	key, ok := plain.Uint(fields[1], math.MaxUint64)
	l.Key = key
	ok = ok && byteNumber(fields, 2, &l.Type) && long(fields, 3, &l.Top) && long(fields, 4, &l.Size) && short(fields, 6, &l.Nodes)
	r.Lines = append(r.Lines, l)
	return ok
}
