package reports_test

import (
	"fmt"
	"math"
	"slices"
	"strings"
	"testing"

	"paternoster/api"
	"paternoster/audits"
	"paternoster/costs"
	"paternoster/engines"
	"paternoster/mutants"
	"paternoster/reports"
	"paternoster/scripts"
	"paternoster/snapshots"
)

// expect fails unless two values are written alike.
func expect(t *testing.T, what string, got, want any) {
	t.Helper()
	if g, w := fmt.Sprintf("%v", got), fmt.Sprintf("%v", want); g != w {
		t.Errorf("%s: %s, expected %s", what, g, w)
	}
}

func all(l ...any) []any { return l }

// lined returns lines for what stands between semicolons.
func lined(s string) string { return strings.ReplaceAll(s, "; ", "\n") + "\n" }

// config is the configuration of chapter 38.
func config() api.Config {
	row := api.Part{Kind: api.Element, Tag: "row", Parts: []api.Part{{Kind: api.Field}}}
	return api.Config{View: 25, Least: 1, Cap: 64, Arena: 100, Kinds: []api.Kind{{Template: row, Base: 10, Pool: 2}, {Template: row, Base: 6, Sticky: true}}}
}

func insert(keys ...uint64) api.Event {
	n := api.Notice{Kind: api.Insert}
	for _, key := range keys {
		n.Items = append(n.Items, api.Item{Key: key, Type: uint8(min(key/100, 1))})
	}
	return api.Event{Kind: api.Batch, Notices: []api.Notice{n}}
}

// script returns a script of some events, one of which is refused.
func script() scripts.Script {
	return scripts.Script{Config: config(), Events: []api.Event{insert(100, 1, 2, 3, 4), {Kind: api.Resize}, {Kind: api.ScrollTo, To: 12}, {Kind: api.Resize, To: 20}}}
}

// full is a report with all that there may be.
func full() reports.Report {
	return reports.Report{
		Answers: []api.Errno{0, 18, -3, math.MaxInt}, View: math.MinInt64, Offset: math.MaxInt64, Total: -1, Items: 5, Known: math.MinInt,
		Cost:  costs.Cost{Created: 1, Freed: -2, Inserted: 3, Removed: 4, Moved: 5, Wrote: 6, Placed: 7, Rounds: 8, Rebound: 9, Made: 10, Dropped: 11},
		Rules: []audits.Rule{audits.Tops, 255}, Finding: audits.Finding{At: -7, What: "slice"},
		Lines: []snapshots.Line{{Key: math.MaxUint64, Type: 255, Top: -4, Size: -5, Pinned: true, Nodes: -6}, {}},
	}
}

const fullText = "answers 0 18 -3 9223372036854775807; view -9223372036854775808; offset 9223372036854775807; total -1; items 5 -9223372036854775808; cost 1 -2 3 4 5 6 7 8 9 10 11; rules 3 255; differ -7 slice; line 18446744073709551615 255 -4 -5 pinned -6; line 0 0 0 0 free 0"

func TestP44_1Of(t *testing.T) {
	s := script()
	r, e := reports.Of(s)
	text, _ := reports.Text(r)
	expect(t, "Of", all(text, e), all(lined("answers 0 4 0 0; view 20; offset 12; total 46; items 5 5; cost 10 0 10 1 0 0 6 2 0 5 0; rules; same; line 100 1 12 6 pinned 2; line 1 0 6 10 free 2; line 2 0 16 10 free 2; line 3 0 26 10 free 2"), 0))
	g, answers, _ := scripts.Run(s)
	fresh, _ := engines.New(s.Config)
	cost, refused, _ := costs.Run(fresh, s.Events)
	lines, _ := snapshots.Lines(g)
	rules, _ := audits.Rules(g)
	expect(t, "Of", all(r.Answers, r.Cost, reports.Refused(r), r.Lines, r.Rules, r.View, r.Offset), all(answers, cost, refused, lines, rules, g.View(), g.Offset()))
	flawed, _ := mutants.Script(3)
	flawed.Config.Flaw = 3
	r, _ = reports.Of(flawed)
	expect(t, "Of", all(r.Rules, r.Finding), all([]audits.Rule{audits.Pools}, audits.Finding{At: 1, What: "counts"}))
	r, e = reports.Of(scripts.Script{})
	expect(t, "Of", all(r, e), all(reports.Report{}, api.ErrConfig))
}

func TestP44_2Text(t *testing.T) {
	expect(t, "Text", all(reports.Text(full())), all(lined(fullText), 0))
	expect(t, "Text", all(reports.Text(reports.Report{Finding: audits.Finding{At: 4}})), all(lined("answers; view 0; offset 0; total 0; items 0 0; cost 0 0 0 0 0 0 0 0 0 0 0; rules; same"), 0))
	az := reports.Report{Finding: audits.Finding{What: "az"}}
	text, _ := reports.Text(az)
	got, _, e := reports.Parse(text)
	expect(t, "Text", all(got.Finding, e), all(az.Finding, 0))
	long := reports.Report{Lines: make([]snapshots.Line, 80000)}
	expect(t, "Text", all(reports.Text(long)), all("", api.ErrLimit))
	for _, what := range []string{"A", "a b", "a\n", "é", "-", "a1"} {
		long.Finding.What = what
		expect(t, "Text", all(reports.Text(long)), all("", api.ErrForm))
	}
}

func TestP44_3Parse(t *testing.T) {
	r, line, e := reports.Parse(lined(fullText))
	expect(t, "Parse", all(r, line, e), all(full(), 0, 0))
	lines := strings.Split(fullText, "; ")
	for i, bad := range []string{
		"answers 0 ; answer 0; answers  0; answers 00; answers 9223372036854775808; answers x;  answers", "view; view 1 2; view -0; views 1; view 9223372036854775808; view 01", "offset; offset x; total 1", "total; total 1 ; Total 1", "items 1; items 1 2 3; items 1 x; items 1 -9223372036854775809",
		"cost 1 2 3 4 5 6 7 8 9 10; cost 1 2 3 4 5 6 7 8 9 10 11 12; cost 1 2 3 4 5 6 7 8 9 10 x; cost", "rules -1; rules 256; rules ; rule", "same ; differ 1; differ 1 ; differ x slice; differ 1 Slice; differ 1 a b; differ 1 a1; differ", "line 1 1 1 1 free; line -1 1 1 1 free 1; line 1 256 1 1 free 1; line 1 1 x 1 free 1; line 1 1 1 x free 1; line 1 1 1 1 loose 1; line 1 1 1 1 free x; line 1 1 1 1 free 1 1; same",
	} {
		for _, x := range strings.Split(bad, "; ") {
			now := slices.Clone(lines)
			now[i] = x
			r, line, e := reports.Parse(strings.Join(now, "\n") + "\n")
			expect(t, fmt.Sprintf("Parse of %q", x), all(r, line, e), all(reports.Report{}, i+1, api.ErrForm))
		}
	}
	for n := range 8 {
		r, line, e := reports.Parse(strings.Join(lines[:n], "\n") + map[bool]string{true: "\n"}[n > 0])
		expect(t, "Parse with lines that are missing", all(r, line, e), all(reports.Report{}, n+1, api.ErrForm))
	}
	for n := 1; n <= len(lines); n++ {
		r, line, e := reports.Parse(strings.Join(lines[:n], "\n"))
		expect(t, "Parse without a line feed", all(r, line, e), all(reports.Report{}, n, api.ErrForm))
	}
	r, line, e = reports.Parse("answers\n")
	expect(t, "Parse", all(r, line, e), all(reports.Report{}, 2, api.ErrForm))
	r, line, e = reports.Parse(lined(fullText) + "\n")
	expect(t, "Parse", all(r, line, e), all(reports.Report{}, 11, api.ErrForm))
	r, line, e = reports.Parse(strings.Repeat("\n", api.MaxText+1))
	expect(t, "Parse", all(r, line, e), all(reports.Report{}, 0, api.ErrLimit))
}

func TestP44_4SameGoodRefused(t *testing.T) {
	for i, change := range []func(r *reports.Report){
		func(r *reports.Report) { r.Answers[1] = 0 }, func(r *reports.Report) { r.View++ }, func(r *reports.Report) { r.Offset-- }, func(r *reports.Report) { r.Total++ }, func(r *reports.Report) { r.Items++ }, func(r *reports.Report) { r.Known++ },
		func(r *reports.Report) { r.Cost.Wrote++ }, func(r *reports.Report) { r.Rules = r.Rules[:1] }, func(r *reports.Report) { r.Finding.At++ }, func(r *reports.Report) { r.Finding.What = "" }, func(r *reports.Report) { r.Lines[1].Pinned = true },
	} {
		a, b := full(), full()
		expect(t, "Same", reports.Same(a, b), true)
		change(&b)
		expect(t, fmt.Sprint("Same ", i), all(reports.Same(a, b), reports.Same(b, a), reports.Same(b, b)), all(false, false, true))
	}
	empty := reports.Report{Answers: []api.Errno{}, Rules: []audits.Rule{}, Lines: []snapshots.Line{}, Finding: audits.Finding{At: 3}}
	expect(t, "Same", all(reports.Same(reports.Report{}, empty), reports.Good(empty), reports.Refused(empty)), all(true, true, 0))
	expect(t, "Good", all(reports.Good(full()), reports.Good(reports.Report{Rules: []audits.Rule{audits.Known}}), reports.Good(reports.Report{Finding: audits.Finding{What: "a"}}), reports.Refused(full())), all(false, false, false, 3))
}

func TestP44_5Consequences(t *testing.T) {
	l := []scripts.Script{script()}
	for flaw := uint8(1); flaw <= mutants.Flaws; flaw++ {
		s, _ := mutants.Script(flaw)
		l = append(l, s)
		s.Config.Flaw = flaw
		r, _ := reports.Of(s)
		expect(t, "Good of a flaw", reports.Good(r), false)
	}
	for _, s := range l {
		r, e := reports.Of(s)
		text, _ := reports.Text(r)
		got, line, f := reports.Parse(text)
		again, _ := reports.Text(got)
		expect(t, "the report of a script", all(e, reports.Good(r), reports.Same(got, r), line, f, again), all(0, true, true, 0, 0, text))
		written, _ := scripts.Text(s)
		read, _, _ := scripts.Parse(written)
		other, _ := reports.Of(read)
		expect(t, "the report of a script that was read again", reports.Same(other, r), true)
	}
}
