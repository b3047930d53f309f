package notices_test

import (
	"fmt"
	"math"
	"slices"
	"strings"
	"testing"

	"paternoster/api"
	"paternoster/items"
	"paternoster/lists"
	"paternoster/notices"
)

// expect fails unless two values are written alike.
func expect(t *testing.T, what string, got, want any) {
	t.Helper()
	if g, w := fmt.Sprintf("%v", got), fmt.Sprintf("%v", want); g != w {
		t.Errorf("%s: %s, expected %s", what, g, w)
	}
}

func all(l ...any) []any { return l }

func rules() lists.Rules {
	return lists.Rules{Cap: 64, Kinds: []api.Kind{{Template: api.Part{Kind: api.Element, Tag: "a"}, Base: 10}}}
}

func item(key uint64) api.Item { return api.Item{Key: key, Text: "x"} }

func insert(at int, keys ...uint64) api.Notice {
	n := api.Notice{Kind: api.Insert, At: at}
	for _, key := range keys {
		n.Items = append(n.Items, item(key))
	}
	return n
}

func change(at int, keys ...uint64) api.Notice {
	n := insert(at, keys...)
	n.Kind = api.Change
	return n
}

func reset(keys ...uint64) api.Notice {
	n := insert(0, keys...)
	n.Kind = api.Reset
	return n
}

func remove(at, count int) api.Notice { return api.Notice{Kind: api.Remove, At: at, Count: count} }

func move(at, count, to int) api.Notice {
	return api.Notice{Kind: api.Move, At: at, Count: count, To: to}
}

func list(t *testing.T, keys ...uint64) lists.List {
	t.Helper()
	l, e := lists.Reset(rules(), lists.List{}, insert(0, keys...).Items)
	if e != api.OK {
		t.Fatal(e)
	}
	return l
}

func keys(l lists.List) []uint64 {
	var out []uint64
	for _, x := range l.Entries {
		out = append(out, x.Item.Key)
	}
	return out
}

func TestP25_1Check(t *testing.T) {
	for _, n := range []api.Notice{insert(-5, 1), insert(0), remove(-1, -2), move(math.MinInt, math.MaxInt, -9), change(3), reset(), reset(1, 1), {Kind: api.Insert, Items: make([]api.Item, 5000)}} {
		expect(t, "Check", notices.Check(n), api.OK)
	}
	full := api.Notice{At: 1, Count: 2, To: 3, Items: insert(0, 1).Items}
	for kind, used := range map[uint8]string{api.Insert: "AtItems", api.Remove: "AtCount", api.Move: "AtCountTo", api.Change: "AtItems", api.Reset: "Items"} {
		for name, set := range map[string]func(n *api.Notice){
			"At": func(n *api.Notice) { n.At = full.At }, "Count": func(n *api.Notice) { n.Count = full.Count }, "To": func(n *api.Notice) { n.To = -1 }, "Items": func(n *api.Notice) { n.Items = full.Items },
		} {
			n := api.Notice{Kind: kind, Items: []api.Item{}}
			set(&n)
			want := api.ErrForm
			if strings.Contains(used, name) {
				want = api.OK
			}
			expect(t, fmt.Sprint("Check of ", kind, name), notices.Check(n), want)
		}
	}
	for _, kind := range []uint8{0, 6, 255} {
		full.Kind = kind
		expect(t, "Check", notices.Check(full), api.ErrArg)
	}
}

func TestP25_2Apply(t *testing.T) {
	l := list(t, 1, 2, 3)
	for _, x := range []struct {
		n    api.Notice
		want []uint64
		e    api.Errno
	}{
		{insert(1, 8, 9), []uint64{1, 8, 9, 2, 3}, 0}, {remove(0, 2), []uint64{3}, 0}, {move(0, 1, 2), []uint64{2, 3, 1}, 0}, {change(1, 2, 3), []uint64{1, 2, 3}, 0}, {reset(7), []uint64{7}, 0},
		{insert(4, 9), nil, api.ErrRange}, {insert(0, 1), nil, api.ErrTwice}, {remove(3, 1), nil, api.ErrRange}, {move(0, 1, 3), nil, api.ErrRange}, {change(0, 2), nil, api.ErrKey}, {reset(0), nil, api.ErrItem},
		{api.Notice{Kind: 6, At: 3}, nil, api.ErrArg}, {api.Notice{Kind: api.Reset, At: 3}, nil, api.ErrForm},
	} {
		got, e := notices.Apply(rules(), l, x.n)
		expect(t, "Apply", all(keys(got), e), all(x.want, x.e))
	}
	got, e := notices.Apply(lists.Rules{}, l, api.Notice{})
	expect(t, "Apply", all(keys(got), e), all("[]", api.ErrConfig))
	set, _ := lists.Set(rules(), l, 2, 25)
	got, _ = notices.Apply(rules(), set, change(1, 2))
	expect(t, "Change makes an entry fresh", all(got.Entries[1].Size, got.Entries[1].Known), all(10, false))
}

func TestP25_3All(t *testing.T) {
	l := list(t, 1, 2, 3)
	for _, x := range []struct {
		n    []api.Notice
		want []uint64
		at   int
		e    api.Errno
	}{
		{[]api.Notice{remove(0, 1), insert(2, 9), move(0, 1, 2)}, []uint64{3, 9, 2}, 3, 0}, {nil, []uint64{1, 2, 3}, 0, 0},
		{[]api.Notice{remove(0, 1), remove(2, 1)}, nil, 1, api.ErrRange}, {[]api.Notice{remove(0, 1), {}}, nil, 1, api.ErrArg}, {[]api.Notice{{Kind: api.Reset, To: 1}}, nil, 0, api.ErrForm},
		{make([]api.Notice, 33), nil, 0, api.ErrLimit}, {slices.Repeat([]api.Notice{reset(4)}, 32), []uint64{4}, 32, 0},
	} {
		got, at, e := notices.All(rules(), l, x.n)
		expect(t, "All", all(keys(got), at, e), all(x.want, x.at, x.e))
	}
	got, at, e := notices.All(lists.Rules{}, l, make([]api.Notice, 33))
	expect(t, "All", all(keys(got), at, e), all("[]", 0, api.ErrConfig))
	got, _, _ = notices.All(rules(), l, nil)
	got.Entries[0].Item.Key = 77
	expect(t, "All gives new memory", keys(l), []uint64{1, 2, 3})
}

func TestP25_4Same(t *testing.T) {
	l := []api.Notice{insert(1, 2), insert(1, 2, 3), insert(2, 2), change(1, 2), remove(1, 2), remove(2, 2), move(1, 2, 3), move(1, 2, 4), reset(), {}, {Kind: api.Insert, At: 1, Items: []api.Item{{Key: 2}}}}
	for i, a := range l {
		for k, b := range l {
			expect(t, "Same", notices.Same(a, b), i == k)
		}
	}
	expect(t, "Same", notices.Same(reset(), api.Notice{Kind: api.Reset, Items: []api.Item{}}), true)
}

func TestP25_5Text(t *testing.T) {
	expect(t, "Text", all(notices.Text([]api.Notice{insert(2, 9), remove(0, 1)})), all("insert 2 1\n9 0 - x\nremove 0 1\n", 0))
	expect(t, "Text", all(notices.Text([]api.Notice{move(-1, 2, -3), change(0), reset(1)})), all("move -1 2 -3\nchange 0 0\nreset 1\n1 0 - x\n", 0))
	expect(t, "Text", all(notices.Text(nil)), all("", 0))
	big := api.Notice{Kind: api.Reset}
	for range api.MaxItems {
		big.Items = append(big.Items, api.Item{Key: math.MaxUint64, Text: strings.Repeat("x", 64), Marks: slices.Repeat([]string{strings.Repeat("m", 16)}, 8)})
	}
	for _, x := range []struct {
		n []api.Notice
		e api.Errno
	}{
		{make([]api.Notice, 33), api.ErrLimit}, {[]api.Notice{insert(0, 1), {}}, api.ErrArg}, {[]api.Notice{{Kind: api.Remove, To: 1}}, api.ErrForm}, {[]api.Notice{insert(0, 0), {}}, api.ErrItem},
		{[]api.Notice{{Kind: api.Insert, Items: make([]api.Item, 1025)}}, api.ErrLimit}, {slices.Repeat([]api.Notice{big}, 5), api.ErrLimit}, {append(slices.Repeat([]api.Notice{big}, 5), api.Notice{}), api.ErrArg},
		{slices.Repeat([]api.Notice{big}, 4), 0},
	} {
		s, e := notices.Text(x.n)
		expect(t, "Text", all(e, s != ""), all(x.e, x.e == 0))
	}
}

func TestP25_6Parse(t *testing.T) {
	many := strings.Repeat("reset 0\n", 32)
	for _, x := range []struct {
		s    string
		line int
		e    api.Errno
	}{
		{"insert 0 1\n", 2, api.ErrForm}, {"remove 0\n", 1, api.ErrForm}, {"reset 0\nfoo\n", 2, api.ErrForm}, {"reset 1\nfoo\n", 2, api.ErrForm}, {"reset 1\n1 0 - x", 2, api.ErrForm}, {"reset 0", 1, api.ErrForm},
		{"\n", 1, api.ErrForm}, {"reset  0\n", 1, api.ErrForm}, {"reset 00\n", 1, api.ErrForm}, {"reset -1\n", 1, api.ErrForm}, {"reset 1025\n", 1, api.ErrForm}, {"reset 0 \n", 1, api.ErrForm}, {" reset 0\n", 1, api.ErrForm},
		{"insert 0 0 0\n", 1, api.ErrForm}, {"remove 9223372036854775808 0\n", 1, api.ErrForm}, {"remove -0 0\n", 1, api.ErrForm}, {"move 0 0\n", 1, api.ErrForm}, {"Insert 0 0\n", 1, api.ErrForm}, {"insert\n", 1, api.ErrForm},
		{"reset 2\n1 0 - x\n", 3, api.ErrForm}, {"reset 1\n1 8 - x\n", 2, api.ErrForm}, {"reset 1\n\n", 2, api.ErrForm}, {"reset 1\n1 0 - x\n1 0 - x\n", 3, api.ErrForm},
		{many + "reset 1\n", 33, api.ErrLimit}, {many + "reset\n", 33, api.ErrForm}, {many + "reset 0", 33, api.ErrForm}, {strings.Repeat("\n", api.MaxText+1), 0, api.ErrLimit}, {strings.Repeat("\n", api.MaxText), 1, api.ErrForm},
	} {
		got, line, e := notices.Parse(x.s)
		expect(t, fmt.Sprintf("Parse of %.30q", x.s), all(len(got), line, e), all(0, x.line, x.e))
	}
	long := strings.Repeat("1 0 - x\n", api.MaxItems)
	for _, s := range []string{many, "reset 1024\n" + long, "insert 0 1024\n" + long} {
		got, line, e := notices.Parse(s)
		text, f := notices.Text(got)
		expect(t, "Parse at the limits", all(line, e, f, text == s), all(0, 0, 0, true))
	}
	got, line, e := notices.Parse("")
	expect(t, "Parse", all(len(got), line, e), all(0, 0, 0))
}

func TestP25_7Consequences(t *testing.T) {
	x := []api.Notice{insert(2, 9), remove(0, 1), move(-1, math.MaxInt, math.MinInt), change(0), reset(1, 1, 2), insert(0)}
	x[0].Items[0].Marks = []string{"u", "v"}
	s, _ := notices.Text(x)
	got, line, e := notices.Parse(s)
	again, _ := notices.Text(got)
	expect(t, "Parse of Text", all(slices.EqualFunc(got, x, notices.Same), line, e, again), all(true, 0, 0, s))
	l := list(t, 1, 2, 3, 4)
	batch := []api.Notice{insert(2, 9), remove(0, 1), move(0, 1, 2), change(0, 9), insert(0, 20)}
	whole, _, _ := notices.All(rules(), l, batch)
	for i := range batch {
		first, _, _ := notices.All(rules(), l, batch[:i])
		both, _, e := notices.All(rules(), first, batch[i:])
		expect(t, "All behind All", all(lists.Same(both, whole), e), all(true, 0))
	}
	expect(t, "what was there", all(keys(l), items.Same(batch[0].Items[0], item(9))), all([]uint64{1, 2, 3, 4}, true))
}
