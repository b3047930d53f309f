package nodes_test

import (
	"fmt"
	"strings"
	"testing"

	"paternoster/api"
	"paternoster/nodes"
)

// expect fails unless two values are written alike.
func expect(t *testing.T, what string, got, want any) {
	t.Helper()
	if g, w := fmt.Sprint(got), fmt.Sprint(want); g != w {
		t.Errorf("%s: %s, expected %s", what, g, w)
	}
}

func all(l ...any) []any { return l }

func words(text string) api.Node { return api.Node{Kind: api.Words, Text: text} }

func element(tag string, children ...api.Node) api.Node {
	return api.Node{Kind: api.Element, Tag: tag, Children: children}
}

// keyed returns an Element with a Key.
func keyed(n api.Node, key string) api.Node {
	n.Key = key
	return n
}

// with returns an Element with attributes.
func with(n api.Node, attrs ...string) api.Node {
	n.Attrs = nil
	for i := 0; i < len(attrs); i += 2 {
		n.Attrs = append(n.Attrs, api.Attr{Name: attrs[i], Value: attrs[i+1]})
	}
	return n
}

// chain returns a tree of n levels.
func chain(n int) api.Node {
	if n == 1 {
		return words("")
	}
	return element("a", chain(n-1))
}

// wide returns a tree of n nodes on three levels.
func wide(n int) api.Node {
	root := element("r")
	for n--; n > 0; {
		k := min(n, 16)
		child := element("c")
		for range k - 1 {
			child.Children = append(child.Children, words("x"))
		}
		root.Children = append(root.Children, child)
		n -= k
	}
	return root
}

func example() api.Node {
	return with(keyed(element("div", words("x"), element("br")), "k"), "id", `a"b`)
}

func good() []api.Node {
	nine := with(element("a"), "a", "", "b", "", "c", "", "d", "", "e", "", "f", "", "g", "", "h", strings.Repeat("~", 64))
	return []api.Node{
		example(), words(""), words(strings.Repeat(" ", 64)), words(`\"\`), element(strings.Repeat("z", 16)), nine,
		keyed(element("a"), strings.Repeat("9", 16)), chain(6), wide(64),
		element("a", keyed(element("b"), "x"), element("b"), element("b"), keyed(element("b"), "y")),
		{Kind: api.Element, Tag: "a", Attrs: []api.Attr{}, Children: []api.Node{}},
		element("a", make16()...),
	}
}

func make16() []api.Node {
	var l []api.Node
	for range 16 {
		l = append(l, words("x"))
	}
	return l
}

func bad() []api.Node {
	cycle := element("a", words(""))
	cycle.Children[0] = cycle
	return []api.Node{
		{}, {Kind: 3}, {Kind: api.Field}, {Kind: 255}, element(""), element("A"), element("a-"), element(strings.Repeat("z", 17)),
		keyed(element("a"), "K"), keyed(element("a"), strings.Repeat("z", 17)), {Kind: api.Element, Tag: "a", Text: "x"},
		with(element("a"), "b", "", "a", ""), with(element("a"), "a", "", "a", ""), with(element("a"), "", ""), with(element("a"), "a", "\n"),
		with(element("a"), "a", strings.Repeat("x", 65)), with(element("a"), "a", "", "b", "", "c", "", "d", "", "e", "", "f", "", "g", "", "h", "", "i", ""),
		element("a", append(make16(), words(""))...), element("a", keyed(element("b"), "x"), keyed(element("c"), "x")),
		words("\x7f"), words("\x1f"), words("é"), words(strings.Repeat("x", 65)), {Kind: api.Words, Tag: "a"}, keyed(words(""), "k"),
		with(words(""), "a", ""), {Kind: api.Words, Children: []api.Node{words("")}}, chain(7), wide(65), element("a", element("b"), api.Node{}), cycle,
	}
}

func TestP12_1CheckCountDepth(t *testing.T) {
	for i, n := range good() {
		if e := nodes.Check(n); e != api.OK {
			t.Errorf("%d: error %d", i, e)
		}
		sum := 1
		for _, child := range n.Children {
			sum += nodes.Count(child)
		}
		expect(t, "Count", nodes.Count(n), sum)
	}
	for i, n := range bad() {
		expect(t, fmt.Sprint("bad ", i), all(nodes.Check(n), nodes.Count(n), nodes.Depth(n)), all(api.ErrTree, 0, 0))
	}
	expect(t, "Count", all(nodes.Count(example()), nodes.Count(chain(6)), nodes.Count(wide(64)), nodes.Count(words(""))), all(3, 6, 64, 1))
	expect(t, "Depth", all(nodes.Depth(example()), nodes.Depth(chain(6)), nodes.Depth(wide(64)), nodes.Depth(words(""))), all(2, 6, 3, 1))
}

func TestP12_2SameStripCopy(t *testing.T) {
	trees := append(good(), bad()...)
	for i, a := range trees {
		for k, b := range trees {
			expect(t, fmt.Sprint("Same ", i, k), nodes.Same(a, b), i == k && i < len(good()))
		}
	}
	expect(t, "Same", nodes.Same(element("a"), good()[10]), true)
	expect(t, "Same", nodes.Same(element("a", words("x")), element("a", words("y"))), false)
	expect(t, "Same", nodes.Same(with(element("a"), "a", "x"), with(element("a"), "a", "y")), false)
	for _, n := range bad() {
		expect(t, "Strip and Copy", all(nodes.Strip(n), nodes.Copy(n)), all(api.Node{}, api.Node{}))
	}
	n := keyed(element("a", with(keyed(element("b", words("x")), "y"), "c", "d")), "z")
	c, s := nodes.Copy(n), nodes.Strip(n)
	expect(t, "Copy", c, n)
	expect(t, "Strip", s, element("a", with(element("b", words("x")), "c", "d")))
	n.Children[0].Attrs[0].Value = "new"
	n.Children[0].Children[0].Text = "new"
	expect(t, "Copy", c, keyed(element("a", with(keyed(element("b", words("x")), "y"), "c", "d")), "z"))
	expect(t, "Strip", s, element("a", with(element("b", words("x")), "c", "d")))
}

func TestP12_3At(t *testing.T) {
	n := example()
	expect(t, "At", all(nodes.At(n, nil)), all(n, 0))
	expect(t, "At", all(nodes.At(n, []int{0})), all(words("x"), 0))
	expect(t, "At", all(nodes.At(n, []int{1})), all(element("br"), 0))
	for _, path := range [][]int{{1, 0}, {2}, {-1}, {0, 0}, {0, -1}} {
		expect(t, "At", all(nodes.At(n, path)), all(api.Node{}, api.ErrNone))
	}
	expect(t, "At", all(nodes.At(api.Node{}, []int{9})), all(api.Node{}, api.ErrTree))
	got, _ := nodes.At(n, nil)
	got.Attrs[0].Value, got.Children[0].Text = "new", "new"
	expect(t, "At gives new memory", n, example())
}

func TestP12_4Text(t *testing.T) {
	expect(t, "Text", all(nodes.Text(example())), all(`<div:k id="a\"b">"x"<br/></div>`, 0))
	expect(t, "Text", all(nodes.Text(nodes.Strip(example()))), all(`<div id="a\"b">"x"<br/></div>`, 0))
	expect(t, "Text", all(nodes.Text(words(`\"`))), all(`"\\\""`, 0))
	expect(t, "Text", all(nodes.Text(with(element("a"), "b", "", "c", " "))), all(`<a b="" c=" "/>`, 0))
	for _, n := range bad() {
		expect(t, "Text", all(nodes.Text(n)), all("", api.ErrTree))
	}
}

func TestP12_5Parse(t *testing.T) {
	deep := strings.Repeat("<a>", 5)
	most := strings.Repeat(`<a>`+strings.Repeat(`""`, 15)+`</a>`, 3) + `<a>` + strings.Repeat(`""`, 14)
	name, text := strings.Repeat("n", 16), strings.Repeat("t", 64)
	for _, x := range []struct {
		s  string
		at int
		e  api.Errno
	}{
		{"<a></a>", 4, api.ErrForm}, {"<a/", 3, api.ErrForm}, {"<a/>x", 4, api.ErrForm}, {`<a>""</b>`, 7, api.ErrForm},
		{`<a b="" b=""/>`, 0, api.ErrTree}, {`<a c="" b=""/>`, 0, api.ErrTree}, {"", 0, api.ErrForm}, {"x", 0, api.ErrForm}, {" <a/>", 0, api.ErrForm},
		{"<", 1, api.ErrForm}, {"<A/>", 1, api.ErrForm}, {"</a>", 1, api.ErrForm}, {"<a:/>", 3, api.ErrForm}, {"<a: />", 3, api.ErrForm},
		{"<a  b/>", 3, api.ErrForm}, {"<a b/>", 4, api.ErrForm}, {"<a b=/>", 5, api.ErrForm}, {`<a b="/>`, 8, api.ErrForm}, {`<a b="" />`, 8, api.ErrForm},
		{`<a b="\x"/>`, 7, api.ErrForm}, {`<a b="\`, 7, api.ErrForm}, {`"` + "\x1f" + `"`, 1, api.ErrForm}, {`"` + "é" + `"`, 1, api.ErrForm}, {`"abc`, 4, api.ErrForm},
		{"<a />", 3, api.ErrForm}, {"<a/ >", 3, api.ErrForm}, {"<a", 2, api.ErrForm}, {"<a>", 3, api.ErrForm}, {`<a>""`, 5, api.ErrForm}, {`<a>""<`, 6, api.ErrForm},
		{`<a>""</`, 7, api.ErrForm}, {`<a>""</a`, 8, api.ErrForm}, {`<ab>""</a>`, 9, api.ErrForm}, {`<a>""</ab>`, 8, api.ErrForm}, {`<abc>""</adc>`, 10, api.ErrForm},
		{`<a>""x</a>`, 5, api.ErrForm}, {`<a>""</a><b/>`, 9, api.ErrForm}, {`""""`, 2, api.ErrForm}, {`<a>""<?`, 6, api.ErrForm},
		{"<" + name + "n/>", 17, api.ErrForm}, {"<a:" + name + "n/>", 19, api.ErrForm}, {"<a " + name + `n=""/>`, 19, api.ErrForm},
		{`"` + text + `t"`, 65, api.ErrForm}, {`"` + text + `\""`, 65, api.ErrForm}, {`"` + text[1:] + `\x"`, 65, api.ErrForm}, {`<a b="` + text + `t"/>`, 70, api.ErrForm},
		{deep + "<a/>" + strings.Repeat("</a>", 5), 0, api.OK}, {deep + "<a><a/>", 18, api.ErrTree}, {deep + `<a>"`, 18, api.ErrTree}, {deep + `<a>x`, 18, api.ErrForm},
		{`<r>` + most + `</a></r>`, 0, api.OK}, {`<r>` + most + `""`, 3 + len(most), api.ErrTree}, {`<r>` + most + `</a><b`, 7 + len(most), api.ErrTree},
		{`<r>` + most + `</a>x`, 7 + len(most), api.ErrForm}, {`<r>` + most + `<`, 4 + len(most), api.ErrForm},
		{`<a>` + strings.Repeat(`""`, 17) + `</a>`, 0, api.ErrTree}, {`<a><b:x/><c:x/></a>`, 0, api.ErrTree},
		{strings.Repeat("x", api.MaxText), 0, api.ErrForm}, {strings.Repeat("x", api.MaxText+1), 0, api.ErrLimit},
	} {
		n, at, e := nodes.Parse(x.s)
		if at != x.at || e != x.e || (e != api.OK) != (n.Kind == 0) {
			t.Errorf("Parse(%.90q): %d and error %d, expected %d and %d", x.s, at, e, x.at, x.e)
		}
		if e != api.OK {
			expect(t, "no tree", n, api.Node{})
		} else if text, _ := nodes.Text(n); text != x.s {
			t.Errorf("Text of Parse(%q): %q", x.s, text)
		}
	}
	long := "<a" + strings.Repeat(` a=""`, 9) + "/>"
	expect(t, "too many attributes", all(nodes.Parse(long)), all(api.Node{}, 0, api.ErrTree))
}

func TestP12_6Consequences(t *testing.T) {
	for _, n := range good() {
		text, e := nodes.Text(n)
		got, at, f := nodes.Parse(text)
		if !nodes.Same(got, n) || at != 0 || e|f != 0 {
			t.Errorf("Parse of %s: error %d at %d", text, f, at)
		}
		s := nodes.Strip(n)
		if nodes.Check(s) != api.OK || !nodes.Same(nodes.Strip(s), s) {
			t.Errorf("Strip of %s", text)
		}
		for i, child := range n.Children {
			if x, e := nodes.At(n, []int{i}); e != api.OK || !nodes.Same(x, child) || nodes.Check(child) != api.OK {
				t.Errorf("the child %d of %s", i, text)
			}
		}
	}
}
