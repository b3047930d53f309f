package templates_test

import (
	"fmt"
	"strings"
	"testing"

	"paternoster/api"
	"paternoster/nodes"
	"paternoster/templates"
)

// expect fails unless two values are written alike.
func expect(t *testing.T, what string, got, want any) {
	t.Helper()
	if g, w := fmt.Sprint(got), fmt.Sprint(want); g != w {
		t.Errorf("%s: %s, expected %s", what, g, w)
	}
}

func all(l ...any) []any { return l }

func element(tag string, parts ...api.Part) api.Part {
	return api.Part{Kind: api.Element, Tag: tag, Parts: parts}
}

func each(tag string, slots ...api.Slot) api.Part {
	return api.Part{Kind: api.Each, Tag: tag, Slots: slots}
}

func slot(name string, from uint8, value string) api.Slot {
	return api.Slot{Name: name, From: from, Value: value}
}

// slotted returns a part with slots.
func slotted(p api.Part, slots ...api.Slot) api.Part {
	p.Slots = slots
	return p
}

var (
	field  = api.Part{Kind: api.Field}
	number = api.Part{Kind: api.Number}
	words  = api.Part{Kind: api.Words, Text: "w"}
)

// example returns the template of the chapter's examples.
func example() api.Part {
	return slotted(element("li", field, each("b", slot("n", 3, ""))), slot("id", 2, ""))
}

func item() api.Item { return api.Item{Key: 12, Type: 200, Text: "hi", Marks: []string{"u", "v"}} }

func chain(n int, last api.Part) api.Part {
	if n == 1 {
		return last
	}
	return element("a", chain(n-1, last))
}

func many(n int, p api.Part) []api.Part {
	var l []api.Part
	for range n {
		l = append(l, p)
	}
	return l
}

// big returns a template with n parts, more than 49 of them.
func big(n int) api.Part {
	full := element("b", many(15, words)...)
	return element("a", full, full, full, element("b", many(n-50, words)...))
}

func bad() []api.Part {
	nine := []api.Slot{}
	for i := range 9 {
		nine = append(nine, slot(string(rune('a'+i)), 0, ""))
	}
	keyed := func(p api.Part) api.Part { p.Key = "k"; return p }
	texted := func(p api.Part) api.Part { p.Text = "t"; return p }
	tagged := func(p api.Part) api.Part { p.Tag = "t"; return p }
	parted := func(p api.Part) api.Part { p.Parts = []api.Part{words}; return p }
	wrong := element("a")
	wrong.Key = "K"
	inner := []api.Part{
		{}, {Kind: 6}, {Kind: 255}, element(""), element("A"), wrong, texted(element("a")), slotted(element("a"), nine...),
		slotted(element("a"), slot("b", 0, ""), slot("a", 0, "")), slotted(element("a"), slot("a", 0, ""), slot("a", 0, "")),
		slotted(element("a"), slot("A", 0, "")), slotted(element("a"), slot("a", 4, "")), slotted(element("a"), slot("a", 1, "x")),
		slotted(element("a"), slot("a", 3, "x")), slotted(element("a"), slot("a", 0, "\n")), slotted(element("a"), slot("a", 0, strings.Repeat("x", 65))),
		element("a", many(17, words)...), {Kind: api.Words, Text: "\x1f"}, keyed(words), tagged(words), slotted(words, slot("a", 0, "")), parted(words),
		texted(field), keyed(field), tagged(field), slotted(field, slot("a", 0, "")), parted(field),
		texted(number), keyed(number), tagged(number), parted(number), each(""), each("A"), keyed(each("a")), texted(each("a")), parted(each("a")), each("a", nine...),
		element("a", api.Part{}),
	}
	out := []api.Part{{}, words, field, number, each("a"), chain(7, words), chain(7, each("a")), big(65)}
	for _, p := range inner {
		out = append(out, element("x", p))
		if p.Kind == api.Element {
			out = append(out, p)
		}
	}
	return out
}

func good() []api.Part {
	key := element("a")
	key.Key = "k9"
	eight := element("a", many(16, words)...)
	for i := range 8 {
		eight.Slots = append(eight.Slots, slot(string(rune('a'+i)), 0, ""))
	}
	return []api.Part{element("a"), example(), key, chain(6, words), chain(6, each("b")), big(64), element("a", words, number, field, each("b"), element("c", each("d"))), eight}
}

func TestP14_1CheckCount(t *testing.T) {
	for i, p := range good() {
		expect(t, fmt.Sprint("good ", i), all(templates.Check(p), templates.Count(p)), all(0, []int{1, 3, 1, 6, 6, 64, 7, 17}[i]))
	}
	for i, p := range bad() {
		expect(t, fmt.Sprint("bad ", i), all(templates.Check(p), templates.Count(p)), all(api.ErrTree, 0))
		expect(t, "Nodes", all(templates.Nodes(p, -1)), all(0, api.ErrTree))
		expect(t, "Uses", all(templates.Uses(p)), all(templates.Use{}, api.ErrTree))
		expect(t, "Render", all(templates.Render(p, api.Item{}, 64)), all(api.Node{}, api.ErrTree))
	}
	cycle := element("a", words)
	cycle.Parts[0] = cycle
	expect(t, "a part below itself", templates.Check(cycle), api.ErrTree)
}

func TestP14_2Nodes(t *testing.T) {
	for marks, want := range []int{2, 4, 6, 8, 10, 12, 14, 16, 18} {
		expect(t, "Nodes", all(templates.Nodes(example(), marks)), all(want, 0))
	}
	expect(t, "Nodes", all(templates.Nodes(good()[6], 3)), all(5+12, 0))
	for _, marks := range []int{-1, 9} {
		expect(t, "Nodes", all(templates.Nodes(example(), marks)), all(0, api.ErrArg))
	}
}

func TestP14_3Uses(t *testing.T) {
	for _, x := range []struct {
		p    api.Part
		want templates.Use
	}{
		{element("a", words), templates.Use{}}, {element("a", field), templates.Use{Text: true}}, {element("a", number), templates.Use{Key: true}},
		{element("a", each("b")), templates.Use{Marks: true}}, {slotted(element("a"), slot("b", 0, "x"), slot("c", 1, "")), templates.Use{Text: true}},
		{element("a", slotted(element("a"), slot("c", 2, ""))), templates.Use{Key: true}}, {slotted(element("a"), slot("c", 3, "")), templates.Use{Marks: true}},
		{element("a", each("b", slot("c", 1, ""))), templates.Use{Text: true, Marks: true}}, {example(), templates.Use{Text: true, Key: true, Marks: true}},
	} {
		expect(t, "Uses", all(templates.Uses(x.p)), all(x.want, 0))
	}
}

func TestP14_4CheckItem(t *testing.T) {
	for _, x := range []api.Item{item(), {Key: 1}, {Key: 1 << 63, Text: strings.Repeat("~", 64)}, {Key: 1, Marks: []string{"a", "a"}}, {Key: 1, Marks: strings.Fields("a b c d e f g h")}} {
		expect(t, "CheckItem", templates.CheckItem(x), api.OK)
	}
	for _, x := range []api.Item{{}, {Text: "x"}, {Key: 1, Text: strings.Repeat("~", 65)}, {Key: 1, Text: "\n"}, {Key: 1, Marks: []string{""}}, {Key: 1, Marks: []string{"a", "B"}},
		{Key: 1, Marks: strings.Fields("a b c d e f g h i")}, {Key: 1, Marks: []string{strings.Repeat("a", 17)}}} {
		expect(t, "CheckItem", templates.CheckItem(x), api.ErrItem)
		expect(t, "Render", all(templates.Render(example(), x, 64)), all(api.Node{}, api.ErrItem))
	}
}

func text(t *testing.T, p api.Part, x api.Item) string {
	t.Helper()
	n, e := templates.Render(p, x, 64)
	if e != api.OK {
		t.Fatal(e)
	}
	s, _ := nodes.Text(n)
	return s
}

func TestP14_5Render(t *testing.T) {
	expect(t, "Render", text(t, example(), item()), `<li id="12">"hi"<b:u n="2">"u"</b><b:v n="2">"v"</b></li>`)
	expect(t, "Render", text(t, good()[6], item()), `<a>"w""12""hi"<b:u>"u"</b><b:v>"v"</b><c><d:u>"u"</d><d:v>"v"</d></c></a>`)
	expect(t, "Render", text(t, good()[2], item()), `<a:k9/>`)
	p := slotted(element("a"), slot("a", 0, "x y"), slot("b", 1, ""), slot("c", 2, ""), slot("d", 3, ""))
	expect(t, "Render", text(t, p, api.Item{Key: 1<<64 - 1}), `<a a="x y" b="" c="18446744073709551615" d="0"/>`)
	twice := item()
	twice.Marks = []string{"u", "u"}
	keyed := element("a", each("b"), api.Part{Kind: api.Element, Tag: "c", Key: "v"})
	for i, x := range []struct {
		p    api.Part
		x    api.Item
		most int
		e    api.Errno
	}{
		{element("a"), item(), 1, 0}, {example(), item(), 5, api.ErrTree}, {example(), item(), 6, 0}, {example(), item(), 0, api.ErrArg}, {api.Part{}, item(), 65, api.ErrArg}, {example(), item(), -1, api.ErrArg},
		{example(), api.Item{}, 64, api.ErrItem}, {api.Part{}, api.Item{}, 64, api.ErrTree}, {example(), twice, 64, api.ErrTree}, {keyed, item(), 64, api.ErrTree},
		{chain(6, each("b")), item(), 64, api.ErrTree}, {chain(6, each("b")), api.Item{Key: 1}, 64, 0},
		{element("a", append(many(15, words), each("b"))...), item(), 64, api.ErrTree}, {big(64), item(), 64, 0}, {big(64), item(), 63, api.ErrTree},
	} {
		n, e := templates.Render(x.p, x.x, x.most)
		expect(t, fmt.Sprint("Render ", i), all(e, n.Kind), all(x.e, map[bool]uint8{true: api.Element}[x.e == 0]))
	}
}

func TestP14_6Consequences(t *testing.T) {
	for _, p := range good() {
		use, _ := templates.Uses(p)
		for _, x := range []api.Item{item(), {Key: 12}, {Key: 3, Text: "hi"}, {Key: 12, Marks: []string{"u", "v"}}} {
			n, e := templates.Render(p, x, 64)
			count, _ := templates.Nodes(p, len(x.Marks))
			if e == api.OK && nodes.Count(n) != count || !use.Marks && count != templates.Count(p) {
				t.Errorf("%d nodes, Nodes says %d", nodes.Count(n), count)
			}
			y := x
			y.Type++
			if !use.Text {
				y.Text = "other"
			}
			if !use.Key {
				y.Key++
			}
			if !use.Marks {
				y.Marks = []string{"other"}
			}
			m, f := templates.Render(p, y, 64)
			expect(t, "Render of what is not used", all(m, f), all(n, e))
		}
	}
	x := item()
	n, _ := templates.Render(example(), x, 64)
	x.Marks[0] = "new"
	expect(t, "what was passed is not kept", n.Children[1].Key, "u")
}
