package scripts

import (
	"math"
	"strings"

	"paternoster/api"
	"paternoster/notices"
	"paternoster/plain"
	"paternoster/tables"
)

// fault is what cannot be read, and in which line.
type fault struct {
	line int
	e    api.Errno
}

// lines are the lines of a text that were not read yet; what cannot be read they
// throw as a fault.
type lines struct {
	rest string
	line int // the number of the last one that was taken
}

// templateReader reads a template.
type templateReader struct {
	*lines
	parts int // how many were begun
}

// eventReader reads an event.
type eventReader struct{ *lines }

// read returns the script of a text, whether it is valid or not.
func read(t string) (s Script, line int, e api.Errno) {
	defer func() {
		if f, ok := recover().(fault); ok {
			s, line, e = Script{}, f.line, f.e
		}
	}()
	l := &lines{rest: t}
	s.Config = l.config()
	for l.next() == "kind" {
		s.Config.Kinds = append(s.Config.Kinds, l.kind())
	}
	for l.rest != "" {
		s.Events = append(s.Events, eventReader{l}.event())
	}
	return s, 0, api.OK
}

// fail throws the error of the last line that was taken.
func (l *lines) fail() { panic(fault{line: l.line, e: api.ErrForm}) }

// need fails unless the last line that was taken is right.
func (l *lines) need(right bool) {
	if !right {
		l.fail()
	}
}

// take takes the next line.
func (l *lines) take() string {
	l.line++
	line, rest, ended := strings.Cut(l.rest, "\n")
	l.need(ended)
	l.rest = rest
	return line
}

// fields takes the next line, which has to consist of a word and some fields.
func (l *lines) fields(word string, n int) []string {
	fields := strings.Split(l.take(), " ")
	l.need(len(fields) == 1+n && fields[0] == word)
	return fields[1:]
}

// next returns the word of the next line.
func (l *lines) next() string {
	line, _, _ := strings.Cut(l.rest, "\n")
	word, _, _ := strings.Cut(line, " ")
	return word
}

// int64 returns a number.
func (l *lines) int64(s string) int64 {
	n, ok := plain.Int(s)
	l.need(ok)
	return n
}

// int returns a number that has to fit into an int.
func (l *lines) int(s string) int {
	n := l.int64(s)
	l.need(int64(int(n)) == n)
	return int(n)
}

// uint8 returns a number that has to fit into a byte.
func (l *lines) uint8(s string) uint8 {
	n, ok := plain.Uint(s, math.MaxUint8)
	l.need(ok)
	return uint8(n)
}

// block takes as many lines as a number says, all or none.
func (l *lines) block(n int) string {
	end := 0
	for k := range n {
		more := strings.IndexByte(l.rest[end:], '\n') + 1
		if more == 0 {
			l.line += k + 1 // the line behind the last one
			l.fail()
		}
		end += more
	}
	block := l.rest[:end]
	l.rest = l.rest[end:]
	l.line += n
	return block
}

// config reads the line of the configuration.
func (l *lines) config() api.Config {
	f := l.fields("config", 6)
	return api.Config{View: l.int64(f[0]), Over: l.int(f[1]), Least: l.int64(f[2]), Cap: l.int(f[3]), Arena: l.int(f[4]), Flaw: l.uint8(f[5])}
}

// kind reads the lines of a kind.
func (l *lines) kind() api.Kind {
	f := l.fields("kind", 3)
	l.need(f[2] == "sticky" || f[2] == "plain")
	k := api.Kind{Base: l.int64(f[0]), Pool: l.int(f[1]), Sticky: f[2] == "sticky"}
	if l.next() != "element" {
		l.take()
		l.fail()
	}
	t := templateReader{lines: l}
	k.Template = t.part(1)
	return k
}

// part reads the lines of a part on a level.
func (t *templateReader) part(level int) api.Part {
	word := t.next()
	line := t.take()
	t.parts++
	t.need(level <= api.MaxDepth && t.parts <= api.MaxNodes)
	_, rest, spaced := strings.Cut(line, " ")
	switch word {
	case "words":
		t.need(spaced && plain.Text(rest))
		return api.Part{Kind: api.Words, Text: rest}
	case "field":
		t.need(!spaced)
		return api.Part{Kind: api.Field}
	case "number":
		t.need(!spaced)
		return api.Part{Kind: api.Number}
	case "each":
		t.need(plain.Name(rest))
		p := api.Part{Kind: api.Each, Tag: rest, Slots: t.slots()}
		t.fields("end", 0)
		return p
	}
	t.need(word == "element")
	tag, key, _ := strings.Cut(rest, " ")
	t.need(plain.Name(tag) && (key == "-" || plain.Name(key)))
	p := api.Part{Kind: api.Element, Tag: tag, Slots: nil}
	if key != "-" {
		p.Key = key
	}
	p.Slots = t.slots()
	for t.next() != "end" {
		p.Parts = append(p.Parts, t.part(level+1))
	}
	t.fields("end", 0)
	return p
}

// slots reads the lines of slots.
func (t *templateReader) slots() []api.Slot {
	var l []api.Slot
	for t.next() == "slot" {
		fields := strings.SplitN(t.take(), " ", 4)
		t.need(len(fields) >= 3 && plain.Name(fields[1]))
		s := api.Slot{Name: fields[1], From: t.uint8(fields[2])}
		t.need((s.From == 0) == (len(fields) == 4))
		if s.From == 0 {
			s.Value = fields[3]
		}
		t.need(plain.Text(s.Value))
		l = append(l, s)
	}
	return l
}

// event reads the lines of an event.
func (r eventReader) event() (x api.Event) {
	name := r.next()
	for kind := api.ScrollTo; kind <= api.Trim; kind++ {
		if word(kind) == name {
			x.Kind = kind
		}
	}
	switch x.Kind {
	case 0:
		r.take()
		r.fail()
	case api.Reveal:
		key, ok := plain.Uint(r.fields(name, 1)[0], math.MaxUint64)
		r.need(ok)
		x.Key = key
	case api.Batch:
		n := r.int(r.fields(name, 1)[0])
		r.need(n >= 0)
		before := r.line
		l, line, e := notices.Parse(r.block(n))
		r.right(before, line, e)
		x.Notices = l
	case api.Measured:
		r.fields(name, 0)
	default:
		x.To = r.int64(r.fields(name, 1)[0])
	}
	if r.next() == "heights" {
		x.Heights = r.heights()
	}
	return x
}

// heights reads the lines of heights.
func (r eventReader) heights() []api.Height {
	n := r.int(r.fields("heights", 1)[0])
	r.need(n >= 1)
	before := r.line
	l, line, e := tables.Parse(r.block(n))
	r.right(before, line, e)
	return l
}

// right throws the error of a line of a block, if there is one.
func (r eventReader) right(before, line int, e api.Errno) {
	if e != api.OK {
		panic(fault{line: before + line, e: e})
	}
}
