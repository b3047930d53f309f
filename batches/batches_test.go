package batches_test

import (
	"fmt"
	"math"
	"slices"
	"testing"

	"paternoster/api"
	"paternoster/batches"
	"paternoster/lists"
	"paternoster/notices"
	"paternoster/remaps"
)

// expect fails unless two values are written alike.
func expect(t *testing.T, what string, got, want any) {
	t.Helper()
	if g, w := fmt.Sprintf("%v", got), fmt.Sprintf("%v", want); g != w {
		t.Errorf("%s: %s, expected %s", what, g, w)
	}
}

func all(l ...any) []any { return l }

func rules() lists.Rules {
	return lists.Rules{Cap: 64, Kinds: []api.Kind{{Template: api.Part{Kind: api.Element, Tag: "a"}, Base: 10}, {Template: api.Part{Kind: api.Element, Tag: "a"}, Base: api.MaxHeight}}}
}

func item(key uint64) api.Item { return api.Item{Key: key, Text: "x"} }

func insert(at int, keys ...uint64) api.Notice {
	n := api.Notice{Kind: api.Insert, At: at}
	for _, key := range keys {
		n.Items = append(n.Items, item(key))
	}
	return n
}

func change(at int, keys ...uint64) api.Notice {
	n := insert(at, keys...)
	n.Kind = api.Change
	for i := range n.Items {
		n.Items[i].Text = "changed"
	}
	return n
}

func reset(keys ...uint64) api.Notice {
	n := insert(0, keys...)
	n.Kind = api.Reset
	return n
}

func remove(at, count int) api.Notice { return api.Notice{Kind: api.Remove, At: at, Count: count} }

func move(at, count, to int) api.Notice {
	return api.Notice{Kind: api.Move, At: at, Count: count, To: to}
}

func list(t *testing.T, keys ...uint64) lists.List {
	t.Helper()
	l, e := lists.Reset(rules(), lists.List{}, insert(0, keys...).Items)
	if e != api.OK {
		t.Fatal(e)
	}
	return l
}

// of returns the net of a batch that has to be right.
func of(t *testing.T, l lists.List, x ...api.Notice) batches.Net {
	t.Helper()
	n, at, e := batches.Of(rules(), l, x)
	if e != api.OK || at != len(x) {
		t.Fatal(at, e)
	}
	return n
}

func keys(l []api.Item) []uint64 {
	var out []uint64
	for _, x := range l {
		out = append(out, x.Key)
	}
	return out
}

func TestP26_1Of(t *testing.T) {
	l := list(t, 1, 2, 3)
	for _, x := range []struct {
		x     []api.Notice
		from  []int
		fresh []bool
		keys  []uint64
	}{
		{[]api.Notice{remove(0, 1), insert(2, 9)}, []int{1, 2, -1}, []bool{false, false, true}, []uint64{9}},
		{[]api.Notice{move(0, 1, 2), change(0, 2)}, []int{1, 2, 0}, []bool{true, false, false}, []uint64{2}},
		{[]api.Notice{remove(0, 1), insert(0, 1)}, []int{-1, 1, 2}, []bool{true, false, false}, []uint64{1}},
		{nil, []int{0, 1, 2}, []bool{false, false, false}, nil}, {[]api.Notice{reset(3, 1)}, []int{-1, -1}, []bool{true, true}, []uint64{3, 1}},
		{[]api.Notice{change(1, 2, 3), move(2, 1, 0)}, []int{2, 0, 1}, []bool{true, false, true}, []uint64{3, 2}},
	} {
		n := of(t, l, x.x...)
		expect(t, "Of", all(n.Map.Old, n.Map.From, n.Fresh, keys(n.Items), batches.Check(n)), all(3, x.from, x.fresh, x.keys, 0))
	}
	n := of(t, l, change(1, 2))
	expect(t, "Of", n.Items[0].Text, "changed")
	for _, x := range []struct {
		c  lists.Rules
		x  []api.Notice
		at int
		e  api.Errno
	}{
		{rules(), []api.Notice{remove(0, 1), remove(2, 1)}, 1, api.ErrRange}, {rules(), make([]api.Notice, 33), 0, api.ErrLimit}, {lists.Rules{}, nil, 0, api.ErrConfig}, {rules(), []api.Notice{remove(0, 1), {}}, 1, api.ErrArg},
	} {
		n, at, e := batches.Of(x.c, l, x.x)
		expect(t, "Of", all(n, at, e), all(batches.Net{}, x.at, x.e))
	}
}

func net(old int, from []int, fresh []bool, keys ...uint64) batches.Net {
	return batches.Net{Map: remaps.Map{Old: old, From: from}, Fresh: fresh, Items: insert(0, keys...).Items}
}

func TestP26_2Check(t *testing.T) {
	for _, x := range []struct {
		n batches.Net
		e api.Errno
	}{
		{batches.Net{}, 0}, {net(2, []int{1, -1}, []bool{true, true}, 0, 0), 0}, {net(-1, nil, nil), api.ErrArg}, {net(5000, nil, []bool{true}), api.ErrLimit}, {net(1, []int{1}, nil), api.ErrRange},
		{net(2, []int{1, 1}, nil), api.ErrTwice}, {net(2, []int{1}, nil), api.ErrArg}, {net(2, []int{-1}, []bool{false}), api.ErrArg}, {net(2, []int{-1}, []bool{true}), api.ErrArg}, {net(2, []int{0}, []bool{false}, 1), api.ErrArg},
		{net(2, []int{0}, []bool{false, false}), api.ErrArg},
	} {
		expect(t, "Check", batches.Check(x.n), x.e)
	}
}

func TestP26_3Apply(t *testing.T) {
	l, _ := lists.Set(rules(), list(t, 1, 2, 3), 2, 25)
	huge := batches.Net{Map: remaps.Map{Old: 3, From: []int{0, -1, -1}}, Fresh: []bool{false, true, true}, Items: []api.Item{{Key: 8, Type: 1}, {Key: 9, Type: 1}}}
	for _, x := range []struct {
		c    lists.Rules
		n    batches.Net
		want string
		e    api.Errno
	}{
		{rules(), net(3, []int{2, 1, -1}, []bool{false, false, true}, 9), "[3:10 2:25! 9:10]", 0}, {rules(), net(3, []int{1}, []bool{true}, 2), "[2:10]", 0}, {rules(), net(3, nil, nil), "[]", 0},
		{lists.Rules{}, net(-1, nil, nil), "[]", api.ErrConfig}, {rules(), net(-1, nil, nil), "[]", api.ErrArg}, {rules(), net(2, nil, nil), "[]", api.ErrArg}, {rules(), net(3, []int{1}, []bool{true}, 3), "[]", api.ErrKey},
		{rules(), net(3, []int{0, -1}, []bool{false, true}, 1), "[]", api.ErrTwice}, {rules(), net(3, []int{-1}, []bool{true}, 0), "[]", api.ErrItem}, {rules(), huge, "[]", api.ErrOverflow},
		{rules(), batches.Net{Map: remaps.Map{Old: 3, From: []int{-1}}, Fresh: []bool{true}, Items: []api.Item{{Key: 1, Type: 2}}}, "[]", api.ErrItem},
		{rules(), batches.Net{Map: remaps.Map{Old: 3, From: slices.Repeat([]int{-1}, 1025)}, Fresh: slices.Repeat([]bool{true}, 1025), Items: make([]api.Item, 1025)}, "[]", api.ErrLimit},
	} {
		got, e := batches.Apply(x.c, l, x.n)
		out := []string{}
		for _, y := range got.Entries {
			known := ""
			if y.Known {
				known = "!"
			}
			out = append(out, fmt.Sprint(y.Item.Key)+":"+fmt.Sprint(y.Size)+known)
		}
		expect(t, "Apply", all(out, e), all(x.want, x.e))
	}
}

func TestP26_4Then(t *testing.T) {
	a := net(3, []int{0, -1, 2}, []bool{false, true, true}, 9, 3)
	b := net(3, []int{2, 1, 0, -1}, []bool{true, false, false, true}, 3, 8)
	got, e := batches.Then(a, b)
	expect(t, "Then", all(got.Map, got.Fresh, keys(got.Items), e), all(remaps.Map{Old: 3, From: []int{2, -1, 0, -1}}, "[true true false true]", "[3 9 8]", 0))
	expect(t, "Then", all(batches.Then(a, a)), all(batches.Net{Map: remaps.Map{Old: 3, From: []int{0, -1, 2}}, Fresh: a.Fresh, Items: a.Items}, 0))
	for _, x := range []struct {
		a, b batches.Net
		e    api.Errno
	}{{net(-1, nil, nil), net(5000, nil, nil), api.ErrArg}, {a, net(5000, nil, nil), api.ErrLimit}, {a, net(2, nil, nil), api.ErrArg}} {
		expect(t, "Then", all(batches.Then(x.a, x.b)), all(batches.Net{}, x.e))
	}
}

func TestP26_5Merge(t *testing.T) {
	for _, x := range []struct{ x, want []api.Notice }{
		{[]api.Notice{insert(1, 5, 6), insert(2, 7), remove(0, 0), move(3, 1, 3)}, []api.Notice{insert(1, 5, 7, 6)}},
		{[]api.Notice{remove(4, 2), remove(3, 1)}, []api.Notice{remove(3, 3)}}, {[]api.Notice{remove(4, 2), remove(4, 1)}, []api.Notice{remove(4, 3)}}, {[]api.Notice{remove(4, 2), remove(2, 1)}, []api.Notice{remove(4, 2), remove(2, 1)}},
		{[]api.Notice{remove(0, 1), reset(1, 2), insert(1, 3), remove(0, 1)}, []api.Notice{reset(3, 2)}}, {[]api.Notice{reset(1, 2), change(1, 2)}, []api.Notice{{Kind: api.Reset, Items: append(insert(0, 1).Items, change(0, 2).Items...)}}},
		{[]api.Notice{reset(1, 2), change(1, 2, 3)}, []api.Notice{reset(1, 2), change(1, 2, 3)}}, {[]api.Notice{reset(1), insert(2, 3)}, []api.Notice{reset(1), insert(2, 3)}}, {[]api.Notice{reset(1), remove(0, 2)}, []api.Notice{reset(1), remove(0, 2)}},
		{[]api.Notice{reset(1), remove(-1, 1)}, []api.Notice{reset(1), remove(-1, 1)}}, {[]api.Notice{reset(1), remove(1, -1)}, []api.Notice{reset(1), remove(1, -1)}}, {[]api.Notice{reset(1, 2), move(0, 1, 1)}, []api.Notice{reset(1, 2), move(0, 1, 1)}},
		{[]api.Notice{insert(1, 5), insert(3, 6)}, []api.Notice{insert(1, 5), insert(3, 6)}}, {[]api.Notice{insert(1, 5), insert(0, 6)}, []api.Notice{insert(1, 5), insert(0, 6)}}, {[]api.Notice{insert(-1, 5), insert(-1, 6)}, []api.Notice{insert(-1, 5), insert(-1, 6)}},
		{[]api.Notice{insert(0, 5), insert(0, 6)}, []api.Notice{insert(0, 6, 5)}}, {[]api.Notice{remove(1, 1), remove(0, 2)}, []api.Notice{remove(0, 3)}}, {[]api.Notice{remove(0, math.MaxInt-1), remove(0, 1)}, []api.Notice{remove(0, math.MaxInt)}},
		{slices.Repeat([]api.Notice{remove(0, 1)}, 32), []api.Notice{remove(0, 32)}}, {[]api.Notice{reset(1), insert(0, 2)}, []api.Notice{reset(2, 1)}}, {[]api.Notice{reset(1), insert(1, 2)}, []api.Notice{reset(1, 2)}}, {[]api.Notice{reset(1), remove(0, 1)}, []api.Notice{reset()}},
		{[]api.Notice{insert(1, 5), insert(1, 6)}, []api.Notice{insert(1, 6, 5)}}, {[]api.Notice{insert(1, 5), insert(2, 6)}, []api.Notice{insert(1, 5, 6)}}, {[]api.Notice{insert(1, 5), remove(1, 1)}, []api.Notice{insert(1, 5), remove(1, 1)}},
		{[]api.Notice{remove(0, math.MaxInt), remove(0, 1)}, []api.Notice{remove(0, math.MaxInt), remove(0, 1)}}, {[]api.Notice{remove(0, -1), remove(0, 1)}, []api.Notice{remove(0, -1), remove(0, 1)}},
		{[]api.Notice{remove(1, 1), remove(-1, 9)}, []api.Notice{remove(1, 1), remove(-1, 9)}}, {[]api.Notice{remove(1, 1), remove(2, 9)}, []api.Notice{remove(1, 1), remove(2, 9)}},
		{[]api.Notice{insert(0), change(9), remove(-5, 0), move(1, 0, 7), move(4, 9, 4)}, nil}, {[]api.Notice{insert(1, 2), reset()}, []api.Notice{reset()}}, {[]api.Notice{change(0, 1), change(0, 1)}, []api.Notice{change(0, 1), change(0, 1)}},
		{[]api.Notice{remove(math.MinInt, 5), remove(math.MaxInt, 5)}, []api.Notice{remove(math.MinInt, 5), remove(math.MaxInt, 5)}}, {[]api.Notice{insert(math.MaxInt, 5), insert(math.MinInt, 5)}, []api.Notice{insert(math.MaxInt, 5), insert(math.MinInt, 5)}},
	} {
		got, e := batches.Merge(x.x)
		expect(t, "Merge", all(got, e), all(x.want, 0))
	}
	_, e := batches.Merge(make([]api.Notice, 33))
	_, f := batches.Merge([]api.Notice{remove(0, 0), {Kind: api.Reset, At: 1}, {}})
	expect(t, "Merge", all(e, f), all(api.ErrLimit, api.ErrForm))
}

func TestP26_6Same(t *testing.T) {
	l := []batches.Net{{}, net(1, nil, nil), net(1, []int{0}, []bool{false}), net(1, []int{-1}, []bool{false}), net(1, []int{0}, []bool{true}), net(1, []int{0}, []bool{true}, 4), net(1, []int{0}, []bool{true}, 5)}
	for i, a := range l {
		for k, b := range l {
			expect(t, "Same", batches.Same(a, b), i == k)
		}
	}
	expect(t, "Same", batches.Same(batches.Net{}, batches.Net{Map: remaps.Map{From: []int{}}, Fresh: []bool{}, Items: []api.Item{}}), true)
}

// TestP26_7Consequences makes batches by a fixed rule.
func TestP26_7Consequences(t *testing.T) {
	seed := uint32(41)
	next := func(n int) int {
		seed = seed*1664525 + 1013904223
		return int(seed>>8) % n
	}
	one := func(l lists.List) api.Notice {
		n := len(l.Entries)
		at := next(n + 1)
		switch next(6) {
		case 0, 1:
			return insert(at, uint64(1+next(30)), uint64(40+next(30)))
		case 2:
			return remove(at, next(n-at+1))
		case 3:
			count := next(n - at + 1)
			return move(at, count, next(n-count+1))
		case 4:
			if at == n {
				return change(at)
			}
			return change(at, l.Entries[at].Item.Key)
		}
		if next(3) > 0 {
			return remove(0, 0)
		}
		return reset(uint64(1+next(9)), uint64(10+next(9)))
	}
	for range 600 {
		l := list(t, 1, 2, 3, 4, 5)
		l, _ = lists.Set(rules(), l, 3, 33)
		var batch []api.Notice
		states := []lists.List{l}
		for len(batch) < 6 {
			n := one(states[len(batch)])
			if after, e := notices.Apply(rules(), states[len(batch)], n); e == api.OK {
				batch, states = append(batch, n), append(states, after)
			}
		}
		want := states[6]
		whole := of(t, l, batch...)
		got, e := batches.Apply(rules(), l, whole)
		if e != api.OK || !lists.Same(got, want) {
			t.Fatal("the net does not do what the batch does", batch)
		}
		for i := range batch {
			first, second := of(t, l, batch[:i]...), of(t, states[i], batch[i:]...)
			both, e := batches.Then(first, second)
			if e != api.OK || !batches.Same(both, whole) {
				t.Fatal("one net behind the other is not the net", batch)
			}
		}
		merged, e := batches.Merge(batch)
		got, _, f := notices.All(rules(), l, merged)
		if e|f != 0 || len(merged) > len(batch) || !lists.Same(got, want) {
			t.Fatal("the merged batch does something else", batch, merged)
		}
		if again, _ := batches.Merge(merged); len(merged) == 1 && !notices.Same(again[0], merged[0]) {
			t.Fatal("merging again")
		}
	}
}
