package nodes

import (
	"paternoster/api"
	"paternoster/plain"
)

// fault is what is wrong in a text, and where.
type fault struct {
	at  int
	err api.Errno
}

// reader reads a text; what is wrong it throws as a fault.
type reader struct {
	s     string
	at    int
	nodes int // how many have begun
}

// Parse returns the tree with a text. (P12.5)
func Parse(s string) (n api.Node, at int, err api.Errno) {
	if len(s) > api.MaxText {
		return api.Node{}, 0, api.ErrLimit
	}
	defer func() {
		if f, ok := recover().(fault); ok {
			n, at, err = api.Node{}, f.at, f.err
		}
	}()
	r := &reader{s: s}
	n = r.node(1)
	if r.at < len(s) {
		r.fail(api.ErrForm)
	}
	if Check(n) != api.OK {
		return api.Node{}, 0, api.ErrTree
	}
	return Copy(n), 0, api.OK
}

// fail throws an error at the place where the reader is.
func (r *reader) fail(e api.Errno) { panic(fault{at: r.at, err: e}) }

// has reports whether the text goes on like s.
func (r *reader) has(s string) bool {
	return len(r.s)-r.at >= len(s) && r.s[r.at:r.at+len(s)] == s
}

// skip reads s, which has to come.
func (r *reader) skip(s string) {
	for i := range len(s) {
		if !r.has(s[i : i+1]) {
			r.fail(api.ErrForm)
		}
		r.at++
	}
}

// node reads a node on a level.
func (r *reader) node(level int) api.Node {
	if !r.has("<") && !r.has(`"`) {
		r.fail(api.ErrForm)
	}
	if level > api.MaxDepth || r.nodes >= api.MaxNodes {
		r.fail(api.ErrTree)
	}
	r.nodes++
	if r.has(`"`) {
		return api.Node{Kind: api.Words, Text: r.value()}
	}
	return r.element(level)
}

// element reads an Element on a level.
func (r *reader) element(level int) api.Node {
	r.skip("<")
	n := api.Node{Kind: api.Element, Tag: r.name()}
	if r.has(":") {
		r.skip(":")
		n.Key = r.name()
	}
	for r.has(" ") {
		r.skip(" ")
		name := r.name()
		r.skip("=")
		n.Attrs = append(n.Attrs, api.Attr{Name: name, Value: r.value()})
	}
	if !r.has(">") {
		r.skip("/>")
		return n
	}
	r.skip(">")
	n.Children = append(n.Children, r.node(level+1))
	for !r.closing() {
		n.Children = append(n.Children, r.node(level+1))
	}
	r.skip("</" + n.Tag + ">")
	return n
}

// closing reports whether a closing tag comes behind a child, or the text ends
// before that can be told.
func (r *reader) closing() bool {
	return r.has("</") || r.has("<") && r.at == len(r.s)-1
}

// name reads a name.
func (r *reader) name() string {
	s := collect(api.MaxName, r.nameByte)
	if s == "" {
		r.fail(api.ErrForm)
	}
	return s
}

// value reads a string between quotation marks.
func (r *reader) value() string {
	r.skip(`"`)
	s := collect(api.MaxString, r.valueByte)
	r.skip(`"`)
	return s
}

// collect returns the bytes that next returns, most at most.
func collect(most int, next func() (byte, bool)) string {
	var l []byte
	for len(l) < most {
		c, ok := next()
		if !ok {
			break
		}
		l = append(l, c)
	}
	return string(l)
}

// nameByte reads a byte of a name, if one comes.
func (r *reader) nameByte() (byte, bool) {
	if r.at == len(r.s) || !plain.NameByte(r.s[r.at]) {
		return 0, false
	}
	r.at++
	return r.s[r.at-1], true
}

// valueByte reads a byte of a value, if one comes.
func (r *reader) valueByte() (byte, bool) {
	if r.at == len(r.s) || !plain.TextByte(r.s[r.at]) || r.s[r.at] == '"' {
		return 0, false
	}
	if r.s[r.at] == '\\' {
		r.at++
		if !r.has(`"`) && !r.has(`\`) {
			r.fail(api.ErrForm)
		}
	}
	r.at++
	return r.s[r.at-1], true
}
