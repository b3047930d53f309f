package diffs_test

import (
	"fmt"
	"slices"
	"strings"
	"testing"

	"paternoster/api"
	"paternoster/diffs"
	"paternoster/nodes"
)

// expect fails unless two values are written alike.
func expect(t *testing.T, what string, got, want any) {
	t.Helper()
	if g, w := fmt.Sprint(got), fmt.Sprint(want); g != w {
		t.Errorf("%s: %s, expected %s", what, g, w)
	}
}

func all(l ...any) []any { return l }

// tree returns the tree with a text.
func tree(t *testing.T, s string) api.Node {
	t.Helper()
	n, at, e := nodes.Parse(s)
	if e != api.OK {
		t.Fatal(s, at, e)
	}
	return n
}

func text(n api.Node) string {
	s, _ := nodes.Text(n)
	return s
}

// written writes steps down.
func written(l []diffs.Step) string {
	var out []string
	for _, s := range l {
		x := []string{"", "drop", "set", "text", "free", "mount", "move", "replace"}[s.What] + strings.ReplaceAll(fmt.Sprint(s.Path), " ", ".")
		switch s.What {
		case diffs.DropAttr:
			x += s.Name
		case diffs.SetAttr:
			x += s.Name + "=" + s.Value
		case diffs.SetText:
			x += s.Value
		case diffs.Free:
			x += fmt.Sprint(s.At)
		case diffs.Mount:
			x += fmt.Sprintf("%d %s", s.To, text(s.Tree))
		case diffs.Move:
			x += fmt.Sprintf("%d > %d", s.At, s.To)
		case diffs.Replace:
			x += text(s.Tree)
		}
		out = append(out, x)
	}
	return strings.Join(out, "; ")
}

func TestP19_1FitMatchStay(t *testing.T) {
	expect(t, "Fit", all(diffs.Fit(api.Node{}, api.Node{}), diffs.Fit(tree(t, `<a x="1"/>`), tree(t, `<a:k>"t"</a>`)), diffs.Fit(tree(t, `<a/>`), tree(t, `<b/>`)),
		diffs.Fit(tree(t, `"x"`), tree(t, `"y"`)), diffs.Fit(tree(t, `"x"`), tree(t, `<a/>`))), all(true, true, false, true, false))
	for _, x := range []struct {
		old, now string
		want     []int
	}{
		{`<a><b:p/><c:q/></a>`, `<a><c:p/><c:q/><d/></a>`, []int{-1, 1, -1}},
		{`<a><b/>"x"<b/><c/><b:k/></a>`, `<a><c/><b/><b:k/>"y"<b/><b/>"z"</a>`, []int{3, 0, 4, 1, 2, -1, -1}},
		{`<a><b/></a>`, `<b><b/></b>`, []int{-1}}, {`"x"`, `"y"`, nil}, {`<a/>`, `<a/>`, nil}, {`<a><b:k/></a>`, `<a><b/></a>`, []int{-1}},
	} {
		expect(t, "Match", all(diffs.Match(tree(t, x.old), tree(t, x.now))), all(x.want, 0))
	}
	for _, x := range []struct {
		match []int
		want  []bool
	}{
		{nil, nil}, {[]int{2, 0, 1}, []bool{false, true, true}}, {[]int{1, -1, 0, -1}, []bool{true, false, false, false}}, {[]int{-1, -1}, []bool{false, false}},
		{[]int{5, 9, 7}, []bool{true, true, false}}, {[]int{-2}, nil}, {[]int{0, 0}, nil}, {make([]int, api.MaxList+1), nil}, {[]int{1 << 60}, []bool{true}},
	} {
		expect(t, "Stay", diffs.Stay(x.match), x.want)
	}
	expect(t, "Stay", len(diffs.Stay(slices.Repeat([]int{-1}, api.MaxList))), api.MaxList)
	for _, f := range []func(a, b api.Node) api.Errno{
		func(a, b api.Node) api.Errno { _, e := diffs.Match(a, b); return e },
		func(a, b api.Node) api.Errno { _, e := diffs.Diff(a, b); return e },
		func(a, b api.Node) api.Errno { _, e := diffs.Keep(a, b); return e },
	} {
		expect(t, "errors", all(f(api.Node{}, tree(t, `<a/>`)), f(tree(t, `<a/>`), api.Node{})), all(api.ErrTree, api.ErrTree))
	}
}

func TestP19_2Diff(t *testing.T) {
	for _, x := range [][3]string{
		{`<a x="1">"t"</a>`, `<a y="2">"u"</a>`, `drop[]x; set[]y=2; text[0]u`},
		{`<a><b:p/><b:q/><b:r/></a>`, `<a><b:r/><b:p/><b:q/></a>`, `move[]2 > 0`},
		{`<a><b:p/><c:q/></a>`, `<a><c:p/><c:q/><d/></a>`, `free[]0; mount[]0 <c:p/>; mount[]2 <d/>`},
		{`<a/>`, `<b/>`, `replace[]<b/>`}, {`"x"`, `"y"`, `text[]y`}, {`"x"`, `<a/>`, `replace[]<a/>`}, {`<a:k/>`, `<a:l/>`, ``},
		{`<a><b:p>"1"</b><b:q>"2"</b><b:r>"3"</b></a>`, `<a><n/><b:r>"c"</b><b:q>"b"</b><b:p>"a"</b></a>`,
			`mount[]2 <n/>; text[3.0]c; text[1.0]b; move[]1 > 3; text[0.0]a; move[]0 > 3`},
		{`<a><b:p/><b:q/><b:r/></a>`, `<a/>`, `free[]0; free[]0; free[]0`},
		{`<a><x:p/><b/><y:q/></a>`, `<a><b><c/></b></a>`, `free[]0; free[]1; mount[0]0 <c/>`},
	} {
		got, e := diffs.Diff(tree(t, x[0]), tree(t, x[1]))
		expect(t, "Diff of "+x[0]+" and "+x[1], all(written(got), e), all(x[2], 0))
	}
}

func TestP19_3Apply(t *testing.T) {
	a := tree(t, `<a x="1"><b/>"t"<c/></a>`)
	for _, x := range []struct {
		s    diffs.Step
		want string
		e    api.Errno
	}{
		{diffs.Step{What: diffs.DropAttr, Name: "x"}, `<a><b/>"t"<c/></a>`, 0},
		{diffs.Step{What: diffs.SetAttr, Path: []int{2}, Name: "y", Value: "2"}, `<a x="1"><b/>"t"<c y="2"/></a>`, 0},
		{diffs.Step{What: diffs.SetText, Path: []int{1}, Value: "u"}, `<a x="1"><b/>"u"<c/></a>`, 0},
		{diffs.Step{What: diffs.Free, At: 1}, `<a x="1"><b/><c/></a>`, 0},
		{diffs.Step{What: diffs.Mount, To: 3, Tree: tree(t, `<d:k/>`)}, `<a x="1"><b/>"t"<c/><d:k/></a>`, 0},
		{diffs.Step{What: diffs.Mount, Path: []int{0}, Tree: tree(t, `""`)}, `<a x="1"><b>""</b>"t"<c/></a>`, 0},
		{diffs.Step{What: diffs.Move, At: 0, To: 2}, `<a x="1">"t"<c/><b/></a>`, 0},
		{diffs.Step{What: diffs.Move, At: 2, To: 0}, `<a x="1"><c/><b/>"t"</a>`, 0},
		{diffs.Step{What: diffs.Replace, Tree: tree(t, `"r"`)}, `"r"`, 0},
		{diffs.Step{}, "", api.ErrArg}, {diffs.Step{What: 8}, "", api.ErrArg}, {diffs.Step{What: 8, At: 1}, "", api.ErrArg},
		{diffs.Step{What: diffs.DropAttr, Path: []int{9}, Name: "x", Value: "v"}, "", api.ErrForm}, {diffs.Step{What: diffs.SetAttr, Name: "x", At: 1}, "", api.ErrForm},
		{diffs.Step{What: diffs.SetText, Path: []int{1}, Name: "x"}, "", api.ErrForm}, {diffs.Step{What: diffs.Free, To: 1}, "", api.ErrForm},
		{diffs.Step{What: diffs.Mount, At: 1, Tree: tree(t, `<d/>`)}, "", api.ErrForm}, {diffs.Step{What: diffs.Move, Tree: api.Node{Text: "x"}}, "", api.ErrForm},
		{diffs.Step{What: diffs.Replace, Path: []int{0}, Tree: tree(t, `<d/>`)}, "", api.ErrForm}, {diffs.Step{What: diffs.Free, Tree: api.Node{Kind: 9}}, "", api.ErrForm},
		{diffs.Step{What: diffs.Free, Path: []int{3}}, "", api.ErrNone}, {diffs.Step{What: diffs.Free, Path: []int{-1}}, "", api.ErrNone}, {diffs.Step{What: diffs.Free, Path: []int{1, 0}}, "", api.ErrNone},
		{diffs.Step{What: diffs.SetText}, "", api.ErrArg}, {diffs.Step{What: diffs.SetAttr, Path: []int{1}, Name: "X"}, "", api.ErrArg}, {diffs.Step{What: diffs.DropAttr, Path: []int{1}}, "", api.ErrArg},
		{diffs.Step{What: diffs.Free, Path: []int{1}}, "", api.ErrArg}, {diffs.Step{What: diffs.Mount, Path: []int{1}}, "", api.ErrArg}, {diffs.Step{What: diffs.Move, Path: []int{1}}, "", api.ErrArg},
		{diffs.Step{What: diffs.DropAttr, Name: "y"}, "", api.ErrNone}, {diffs.Step{What: diffs.DropAttr, Name: "X"}, "", api.ErrNone},
		{diffs.Step{What: diffs.Free, At: 3}, "", api.ErrNone}, {diffs.Step{What: diffs.Free, At: -1}, "", api.ErrNone}, {diffs.Step{What: diffs.Move, At: 3, To: 9}, "", api.ErrNone},
		{diffs.Step{What: diffs.SetAttr, Name: "X"}, "", api.ErrTree}, {diffs.Step{What: diffs.SetAttr, Name: "x", Value: "\n"}, "", api.ErrTree}, {diffs.Step{What: diffs.SetText, Path: []int{1}, Value: "\n"}, "", api.ErrTree},
		{diffs.Step{What: diffs.Mount, To: 9}, "", api.ErrTree}, {diffs.Step{What: diffs.Replace}, "", api.ErrTree},
		{diffs.Step{What: diffs.Mount, To: 4, Tree: tree(t, `<d/>`)}, "", api.ErrArg}, {diffs.Step{What: diffs.Mount, To: -1, Tree: tree(t, `<d/>`)}, "", api.ErrArg},
		{diffs.Step{What: diffs.Move, At: 0, To: 3}, "", api.ErrArg}, {diffs.Step{What: diffs.Move, At: 0, To: -1}, "", api.ErrArg},
	} {
		got, e := diffs.Apply(a, []diffs.Step{x.s})
		expect(t, fmt.Sprintf("Apply of %+v", x.s), all(text(got), e, got.Kind > 0), all(x.want, x.e, x.e == 0))
		expect(t, "the argument", text(a), `<a x="1"><b/>"t"<c/></a>`)
	}
	expect(t, "Apply to no tree", all(diffs.Apply(api.Node{}, make([]diffs.Step, 5000))), all(api.Node{}, api.ErrTree))
	expect(t, "too many steps", all(diffs.Apply(a, make([]diffs.Step, api.MaxList+1))), all(api.Node{}, api.ErrLimit))
	mount := diffs.Step{What: diffs.Mount, Tree: tree(t, `<d/>`)}
	free := diffs.Step{What: diffs.Free}
	expect(t, "too many children at the end", all(diffs.Apply(a, slices.Repeat([]diffs.Step{mount}, 14))), all(api.Node{}, api.ErrTree))
	got, e := diffs.Apply(a, append(slices.Repeat([]diffs.Step{mount}, 14), free))
	expect(t, "too many children on the way", all(len(got.Children), e), all(16, 0))
	_, e = diffs.Apply(a, slices.Repeat([]diffs.Step{{What: diffs.Move}}, api.MaxList))
	expect(t, "as many steps as there may be", e, api.OK)
	for _, tree := range []api.Node{{Attrs: make([]api.Attr, 1)}, {Children: make([]api.Node, 1)}, {Key: "k"}, {Tag: "t"}} {
		_, e := diffs.Apply(a, []diffs.Step{{What: diffs.Move, Tree: tree}})
		expect(t, "a Tree that is not used", e, api.ErrForm)
	}
	var nine []diffs.Step
	for i := range 8 {
		nine = append(nine, diffs.Step{What: diffs.SetAttr, Name: fmt.Sprint("n", i)})
	}
	expect(t, "too many attributes", all(diffs.Apply(a, append(nine, diffs.Step{What: diffs.DropAttr, Name: "x"}))), all(api.Node{}, api.ErrTree))
}

func TestP19_4Keep(t *testing.T) {
	full := `<a>` + strings.Repeat(`<x/>`, 10) + `</a>`
	other := `<a>` + strings.Repeat(`<y/>`, 10) + `</a>`
	for _, x := range [][3]string{
		{`<a><i:x/><i:y/></a>`, `<a><i:y/><i:z/></a>`, `<a><i:y/><i:z/><i:x/></a>`},
		{`<a><i:x/></a>`, `<b><i:z/></b>`, `<b><i:z/></b>`}, {`"x"`, `"y"`, `"y"`},
		{`<a p="1"><i:x><j:u/>"o"</i><k/></a>`, `<a><i:x>"n"<j:v/></i><i:z/></a>`, `<a><i:x>"n"<j:v/><j:u/></i><i:z/><k/></a>`},
		{`<a><i:x/></a>`, `<a><j:x/></a>`, `<a><j:x/></a>`}, {full, other, other},
	} {
		got, e := diffs.Keep(tree(t, x[0]), tree(t, x[1]))
		expect(t, "Keep", all(text(got), e), all(x[2], 0))
	}
}

// random returns a tree by a fixed rule.
func random(next func(n int) int, level int) api.Node {
	if level > 3 || next(4) == 0 && level > 1 {
		return api.Node{Kind: api.Words, Text: string(rune('s' + next(3)))}
	}
	n := api.Node{Kind: api.Element, Tag: string(rune('a' + next(2)))}
	for i := range 4 {
		if next(2) == 0 {
			n.Attrs = append(n.Attrs, api.Attr{Name: string(rune('m' + i)), Value: string(rune('0' + next(2)))})
		}
	}
	used := map[string]bool{}
	for range next(6) {
		child := random(next, level+1)
		key := string(rune('i' + next(5)))
		if child.Kind == api.Element && next(3) > 0 && !used[key] {
			used[key] = true
			child.Key = key
		}
		n.Children = append(n.Children, child)
	}
	return n
}

// TestP19_5Consequences compares diffs of many trees.
func TestP19_5Consequences(t *testing.T) {
	seed := uint32(29)
	next := func(n int) int {
		seed = seed*1664525 + 1013904223
		return int(seed>>8) % n
	}
	for range 3000 {
		old, now := random(next, 1), random(next, 1)
		if nodes.Check(old) != api.OK || nodes.Check(now) != api.OK {
			continue
		}
		steps, e := diffs.Diff(old, now)
		got, f := diffs.Apply(old, steps)
		want := now
		if diffs.Fit(old, now) {
			want.Key = old.Key
		}
		if e|f != 0 || !nodes.Same(got, want) {
			t.Fatalf("%s to %s: %s, %d %d", text(old), text(now), text(got), e, f)
		}
		same, _ := diffs.Diff(now, now)
		renamed := now
		renamed.Key = "z"
		other, _ := diffs.Diff(now, renamed)
		m, _ := diffs.Match(old, now)
		moves, matched, stays := 0, 0, 0
		for _, s := range steps {
			if s.What == diffs.Move && len(s.Path) == 0 {
				moves++
			}
		}
		for k, stay := range diffs.Stay(m) {
			if m[k] >= 0 {
				matched++
			}
			if stay {
				stays++
			}
		}
		if len(same) != 0 || len(other) != 0 || moves != matched-stays {
			t.Fatalf("%s to %s: %d moves, %d match, %d stay", text(old), text(now), moves, matched, stays)
		}
		kept, _ := diffs.Keep(old, now)
		if nodes.Check(kept) != api.OK {
			t.Fatal("Keep is not valid")
		}
	}
	steps, _ := diffs.Diff(tree(t, `<a><b:p/><b:q/><b:r/><b:s/></a>`), tree(t, `<a><b:s/><b:q/><b:r/><b:p/></a>`))
	expect(t, "another order", written(steps), `move[]3 > 1; move[]0 > 3`)
}
