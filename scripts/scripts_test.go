package scripts_test

import (
	"fmt"
	"math"
	"slices"
	"strings"
	"testing"

	"paternoster/api"
	"paternoster/scripts"
)

// expect fails unless two values are written alike.
func expect(t *testing.T, what string, got, want any) {
	t.Helper()
	if g, w := fmt.Sprintf("%v", got), fmt.Sprintf("%v", want); g != w {
		t.Errorf("%s: %s, expected %s", what, g, w)
	}
}

func all(l ...any) []any { return l }

// lined returns lines for what stands between semicolons.
func lined(s string) string {
	if s == "" {
		return ""
	}
	return strings.ReplaceAll(s, "; ", "\n") + "\n"
}

const (
	head    = "config 25 0 1 64 100 0; kind 10 2 plain; element row -; field; end"
	example = head + "; batch 1; remove 0 1; scrollby -3; heights 1; 4 40"
)

// small is the script of the chapter's example.
func small() scripts.Script {
	row := api.Part{Kind: api.Element, Tag: "row", Parts: []api.Part{{Kind: api.Field}}}
	c := api.Config{View: 25, Least: 1, Cap: 64, Arena: 100, Kinds: []api.Kind{{Template: row, Base: 10, Pool: 2}}}
	return scripts.Script{Config: c, Events: []api.Event{
		{Kind: api.Batch, Notices: []api.Notice{{Kind: api.Remove, Count: 1}}}, {Kind: api.ScrollBy, To: -3, Heights: []api.Height{{Key: 4, Size: 40}}},
	}}
}

// rich has everything that a script may have.
func rich() scripts.Script {
	s := small()
	part := api.Part{Kind: api.Element, Tag: "a", Key: "k", Slots: []api.Slot{{Name: "m", Value: ""}, {Name: "n", Value: " x "}, {Name: "o", From: 3}}, Parts: []api.Part{
		{Kind: api.Words}, {Kind: api.Words, Text: " end"}, {Kind: api.Number}, {Kind: api.Each, Tag: "e", Slots: []api.Slot{{Name: "p", From: 1}}}, {Kind: api.Element, Tag: "b"},
	}}
	s.Config.Kinds = append(s.Config.Kinds, api.Kind{Template: part, Base: api.MaxHeight, Sticky: true})
	s.Config.Flaw = 6
	items := []api.Item{{Key: 7, Type: 1, Text: "a b", Marks: []string{"u", "v"}}, {Key: math.MaxUint64}}
	s.Events = append(s.Events, []api.Event{
		{Kind: api.ScrollTo, To: math.MinInt64}, {Kind: api.Reveal, Key: math.MaxUint64}, {Kind: api.Resize, To: math.MaxInt64}, {Kind: api.Batch}, {Kind: api.Measured}, {Kind: api.Measured, Heights: []api.Height{{Key: 2, Size: 1}, {Key: 1, Size: api.MaxHeight}}},
		{Kind: api.Trim, To: -5}, {Kind: api.Batch, Notices: []api.Notice{{Kind: api.Insert, At: -1, Items: items}, {Kind: api.Reset}, {Kind: api.Move, At: 1, Count: 2, To: 3}}, Heights: []api.Height{{Key: 7, Size: 9}}},
	}...)
	return s
}

func TestP42_1Check(t *testing.T) {
	expect(t, "Check", all(scripts.Check(small()), scripts.Check(rich())), all(0, 0))
	notice := func(n api.Notice) api.Event { return api.Event{Kind: api.Batch, Notices: []api.Notice{n}} }
	for _, x := range []struct {
		x api.Event
		e api.Errno
	}{
		{api.Event{}, api.ErrArg}, {api.Event{Kind: 8, Key: 1}, api.ErrArg}, {api.Event{Kind: api.Reveal, To: 1}, api.ErrForm}, {api.Event{Kind: api.Batch, Notices: make([]api.Notice, 33)}, api.ErrLimit}, {api.Event{Kind: api.Trim, Heights: make([]api.Height, 257)}, api.ErrLimit},
		{notice(api.Notice{}), api.ErrArg}, {notice(api.Notice{Kind: api.Reset, At: 1}), api.ErrForm}, {notice(api.Notice{Kind: api.Insert, Items: []api.Item{{Key: 1, Type: 8}}}), api.ErrItem}, {notice(api.Notice{Kind: api.Insert, Items: make([]api.Item, 1025)}), api.ErrLimit},
		{api.Event{Kind: api.Measured, Heights: []api.Height{{}}}, api.ErrKey}, {api.Event{Kind: api.Measured, Heights: []api.Height{{Key: 1}}}, api.ErrHeight}, {api.Event{Kind: api.Measured, Heights: []api.Height{{Key: 1, Size: 1}, {Key: 1, Size: 1}}}, api.ErrTwice},
		{api.Event{Kind: api.Batch, Notices: []api.Notice{{}}, Heights: make([]api.Height, 1)}, api.ErrArg}, {api.Event{Kind: api.Resize, To: -9}, 0}, {api.Event{Kind: api.Reveal}, 0}, {notice(api.Notice{Kind: api.Insert, Items: []api.Item{{Key: 1, Type: 7}}}), 0},
	} {
		s := small()
		s.Events = append(s.Events, x.x)
		text, e := scripts.Text(s)
		_, f := scripts.Cut(s, -1)
		_, h := scripts.Without(s, -1)
		g, answers, i := scripts.Run(s)
		if x.e == api.OK {
			f, h = f-api.ErrRange, h-api.ErrRange
		}
		expect(t, fmt.Sprintf("Check of %.40v", x.x), all(scripts.Check(s), e, f, h, i, text == "", g == nil, answers == nil), all(x.e, x.e, x.e, x.e, x.e, x.e > 0, x.e > 0, x.e > 0))
	}
	s := small()
	s.Events = slices.Repeat(s.Events[:1], api.MaxEvents)
	expect(t, "Check", scripts.Check(s), api.OK)
	s.Events = append(s.Events, api.Event{})
	expect(t, "Check", scripts.Check(s), api.ErrLimit)
	s.Config.View = 0
	expect(t, "Check", scripts.Check(s), api.ErrConfig)
	least := small()
	least.Config.Least, least.Config.Kinds[0].Base = 50, 60
	expect(t, "a height below Least has a text", scripts.Check(least), api.OK)
}

func TestP42_2Text(t *testing.T) {
	expect(t, "Text", all(scripts.Text(small())), all(lined(example), 0))
	text, e := scripts.Text(rich())
	want := "config 25 0 1 64 100 6; kind 10 2 plain; element row -; field; end; kind 2305843009213693952 0 sticky; element a k; slot m 0 ; slot n 0  x ; slot o 3; words ; words  end; number; each e; slot p 1; end; element b -; end; end; " +
		"batch 1; remove 0 1; scrollby -3; heights 1; 4 40; scrollto -9223372036854775808; reveal 18446744073709551615; resize 9223372036854775807; batch 0; measured; measured; heights 2; 2 1; 1 2305843009213693952; trim -5; " +
		"batch 5; insert -1 2; 7 1 u,v a b; 18446744073709551615 0 - ; reset 0; move 1 2 3; heights 1; 7 9"
	expect(t, "Text", all(text, e), all(lined(want), 0))
	big := small()
	n := api.Notice{Kind: api.Reset}
	for range api.MaxItems {
		n.Items = append(n.Items, api.Item{Key: 1, Text: strings.Repeat("x", 64)})
	}
	big.Events = slices.Repeat([]api.Event{{Kind: api.Batch, Notices: []api.Notice{n}}}, 16)
	text, e = scripts.Text(big)
	expect(t, "Text", all(text, e), all("", api.ErrLimit))
}

func TestP42_3Parse(t *testing.T) {
	kind := "config 25 0 1 64 100 0; kind 10 2 plain; "
	deep := strings.Repeat("element a -; ", 6)
	for _, x := range []struct {
		s    string
		line int
		e    api.Errno
	}{
		{"config 25 0 1 64 100 0", 0, api.ErrConfig}, {"config 25 0 1 64 100", 1, api.ErrForm}, {"", 1, api.ErrForm}, {"config 25 0 1 64 100 0 0", 1, api.ErrForm}, {"config 025 0 1 64 100 0", 1, api.ErrForm}, {"config 25 0 1 64 100 256", 1, api.ErrForm},
		{"config 25 0 1 64 100 -1", 1, api.ErrForm}, {"config 9223372036854775808 0 1 64 100 0", 1, api.ErrForm}, {"config -25 -1 -1 -1 -1 0", 0, api.ErrConfig}, {"config  25 0 1 64 100 0", 1, api.ErrForm}, {"kind 10 2 plain", 1, api.ErrForm},
		{"config 25 0 1 64 100 0; kind 10 2", 2, api.ErrForm}, {"config 25 0 1 64 100 0; kind 10 2 Sticky", 2, api.ErrForm}, {"config 25 0 1 64 100 0; kind 10 2 plain", 3, api.ErrForm}, {kind + "words x", 3, api.ErrForm}, {kind + "field", 3, api.ErrForm}, {kind + "end", 3, api.ErrForm},
		{kind + "element row", 3, api.ErrForm}, {kind + "element row - -", 3, api.ErrForm}, {kind + "element Row -", 3, api.ErrForm}, {kind + "element row K", 3, api.ErrForm}, {kind + "element row -", 4, api.ErrForm}, {kind + "element row -; end ", 4, api.ErrForm}, {kind + "element row -; field ", 4, api.ErrForm},
		{kind + "element row -; words", 4, api.ErrForm}, {kind + "element row -; words \x7f", 4, api.ErrForm}, {kind + "element row -; words " + strings.Repeat("x", 65), 4, api.ErrForm}, {kind + "element row -; number x", 4, api.ErrForm}, {kind + "element row -; each", 4, api.ErrForm}, {kind + "element row -; each e; field", 5, api.ErrForm},
		{kind + "element row -; slot a", 4, api.ErrForm}, {kind + "element row -; slot a 0", 4, api.ErrForm}, {kind + "element row -; slot a 1 ", 4, api.ErrForm}, {kind + "element row -; slot A 1", 4, api.ErrForm}, {kind + "element row -; slot a 256", 4, api.ErrForm}, {kind + "element row -; slot a 0 \x1f", 4, api.ErrForm},
		{kind + "element row -; slot a 9; end", 0, api.ErrConfig}, {kind + "element row -; slot b 1; slot a 1; end", 0, api.ErrConfig}, {kind + "element row -; field; slot a 1; end", 5, api.ErrForm}, {kind + "element row -; scrollto 1", 4, api.ErrForm}, {kind + deep + "field", 9, api.ErrForm},
		{kind + deep + strings.Repeat("end; ", 5) + "end", 0, api.OK}, {kind + deep + "element a -", 9, api.ErrForm}, {kind + "element a -; " + strings.Repeat("field; ", 63) + "field", 67, api.ErrForm}, {kind + "element a -; " + strings.Repeat("field; ", 63) + "end", 0, api.ErrConfig},
		{head + "; kind 10 2 plain; field", 7, api.ErrForm}, {head + "; scrollto 1; kind 10 2 plain", 7, api.ErrForm}, {head + "; scroll 1", 6, api.ErrForm}, {head + "; scrollto", 6, api.ErrForm}, {head + "; scrollto -0", 6, api.ErrForm}, {head + "; scrollto 1 ", 6, api.ErrForm}, {head + "; reveal -1", 6, api.ErrForm},
		{head + "; reveal 18446744073709551616", 6, api.ErrForm}, {head + "; measured 1", 6, api.ErrForm}, {head + "; ", 6, api.ErrForm}, {head + "; batch", 6, api.ErrForm}, {head + "; batch -1", 6, api.ErrForm}, {head + "; batch 1", 7, api.ErrForm}, {head + "; batch 3; remove 0 1", 8, api.ErrForm}, {head + "; batch 9223372036854775807; foo", 8, api.ErrForm},
		{head + "; batch 2; remove 0 1; foo", 8, api.ErrForm}, {head + "; batch 1; insert 0 1", 8, api.ErrForm}, {head + "; batch 1; insert 0 1; 1 0 - x", 8, api.ErrForm}, {head + "; batch 33; " + strings.Repeat("reset 0; ", 32) + "reset 0", 39, api.ErrLimit}, {head + "; batch 0; heights 0", 7, api.ErrForm},
		{head + "; trim 1; heights 1", 8, api.ErrForm}, {head + "; trim 1; heights 1; 0 1", 8, api.ErrKey}, {head + "; trim 1; heights 2; 1 1; 1 0", 9, api.ErrHeight}, {head + "; trim 1; heights 2; 1 1; 1 1", 9, api.ErrTwice}, {head + "; trim 1; heights 2; 1 x", 9, api.ErrForm}, {head + "; trim 1; heights 1; 1 x", 8, api.ErrForm},
		{head + "; trim 1; heights 1; 1 1; heights 1; 2 2", 9, api.ErrForm}, {head + "; heights 1; 1 1", 6, api.ErrForm}, {head + strings.Repeat("; trim 1", 1025), 0, api.ErrLimit},
	} {
		s, line, e := scripts.Parse(lined(x.s))
		expect(t, fmt.Sprintf("Parse of %q", x.s), all(line, e), all(x.line, x.e))
		if e != api.OK && !scripts.Same(s, scripts.Script{}) {
			t.Error("a script together with an error")
		}
	}
	for _, x := range []struct {
		s    string
		line int
	}{{strings.TrimSuffix(lined(head), "\n"), 5}, {lined(head) + "trim 1", 6}, {lined(head+"; trim 1") + "heights 1", 7}, {lined(head+"; batch 2; reset 0") + "reset 0", 8}, {"config 25 0 1 64 100 0", 1}, {lined(head) + " ", 6}} {
		_, line, e := scripts.Parse(x.s)
		expect(t, fmt.Sprintf("Parse of %q", x.s), all(line, e), all(x.line, api.ErrForm))
	}
	_, line, e := scripts.Parse(strings.Repeat("x", api.MaxText+1))
	expect(t, "Parse", all(line, e), all(0, api.ErrLimit))
	_, line, e = scripts.Parse(strings.Repeat("x", api.MaxText))
	expect(t, "Parse", all(line, e), all(1, api.ErrForm))
}

func TestP42_4SameCutWithout(t *testing.T) {
	for i, change := range []func(s *scripts.Script){
		func(s *scripts.Script) { s.Config.Kinds[1].Template.Parts[4].Tag = "c" }, func(s *scripts.Script) { s.Config.Over++ }, func(s *scripts.Script) { s.Events = s.Events[:3] }, func(s *scripts.Script) { s.Events[2].To++ }, func(s *scripts.Script) { s.Events[3].Key-- },
		func(s *scripts.Script) { s.Events[1].Heights[0].Size++ }, func(s *scripts.Script) { s.Events[9].Notices[0].Items[0].Marks[1] = "w" }, func(s *scripts.Script) { s.Events[0].Kind++ },
	} {
		a, b := rich(), rich()
		expect(t, "Same", scripts.Same(a, b), true)
		change(&b)
		expect(t, fmt.Sprint("Same ", i), all(scripts.Same(a, b), scripts.Same(b, b)), all(false, true))
	}
	expect(t, "Same", scripts.Same(scripts.Script{}, scripts.Script{Events: []api.Event{}}), true)
	s := rich()
	for n := range len(s.Events) + 1 {
		got, e := scripts.Cut(s, n)
		expect(t, "Cut", all(scripts.Same(got, scripts.Script{Config: s.Config, Events: s.Events[:n]}), e), all(true, 0))
	}
	for i := range s.Events {
		got, e := scripts.Without(s, i)
		expect(t, "Without", all(scripts.Same(got, scripts.Script{Config: s.Config, Events: slices.Delete(slices.Clone(s.Events), i, i+1)}), e), all(true, 0))
	}
	for _, n := range []int{-1, len(s.Events) + 1, math.MaxInt} {
		got, e := scripts.Cut(s, n)
		other, f := scripts.Without(s, max(n-1, -1))
		expect(t, "out of range", all(scripts.Same(got, scripts.Script{}), e, scripts.Same(other, scripts.Script{}), f), all(true, api.ErrRange, true, api.ErrRange))
	}
	got, _ := scripts.Cut(s, 10)
	got.Events[9].Notices[0].Items[0].Marks[0], got.Config.Kinds[0].Template.Parts[0].Kind, got.Events[1].Heights[0].Key = "new", 99, 99
	expect(t, "new memory", scripts.Same(s, rich()), true)
}

func TestP42_5Run(t *testing.T) {
	s := small()
	s.Events = append(s.Events, api.Event{Kind: api.Batch, Notices: []api.Notice{{Kind: api.Insert, Items: []api.Item{{Key: 1}, {Key: 2}}}}}, api.Event{Kind: api.Resize})
	g, answers, e := scripts.Run(s)
	expect(t, "Run", all(answers, e, len(g.Rows()), g.View()), all([]api.Errno{api.ErrRange, 0, 0, api.ErrRange}, 0, 2, 25))
	g, answers, e = scripts.Run(scripts.Script{})
	expect(t, "Run", all(g == nil, answers, e), all(true, "[]", api.ErrConfig))
}

func TestP42_6Consequences(t *testing.T) {
	for _, s := range []scripts.Script{small(), rich()} {
		for n := range len(s.Events) + 1 {
			cut, _ := scripts.Cut(s, n)
			text, e := scripts.Text(cut)
			got, line, f := scripts.Parse(text)
			again, _ := scripts.Text(got)
			if !scripts.Same(got, cut) || e|f != 0 || line != 0 || again != text || scripts.Check(cut) != api.OK {
				t.Fatal(n, e, f, line, again)
			}
			a, x, _ := scripts.Run(cut)
			b, y, _ := scripts.Run(got)
			expect(t, "the run", all(b.Offset(), y, b.Counts(), b.Dom().Counters()), all(a.Offset(), x, a.Counts(), a.Dom().Counters()))
		}
	}
}
