package audits_test

import (
	"fmt"
	"testing"

	"paternoster/api"
	"paternoster/audits"
	"paternoster/engines"
	"paternoster/models"
)

// expect fails unless two values are written alike.
func expect(t *testing.T, what string, got, want any) {
	t.Helper()
	if g, w := fmt.Sprintf("%v", got), fmt.Sprintf("%v", want); g != w {
		t.Errorf("%s: %s, expected %s", what, g, w)
	}
}

func all(l ...any) []any { return l }

// config is the configuration of chapter 38.
func config() api.Config {
	row := api.Part{Kind: api.Element, Tag: "row", Parts: []api.Part{{Kind: api.Field}}}
	return api.Config{View: 25, Least: 1, Cap: 64, Arena: 100, Kinds: []api.Kind{{Template: row, Base: 10, Pool: 2}}}
}

// rich has headers and marks, with a flaw.
func rich(flaw uint8) api.Config {
	c := config()
	row := api.Part{Kind: api.Element, Tag: "row", Parts: []api.Part{{Kind: api.Field}, {Kind: api.Each, Tag: "m"}}}
	head := api.Part{Kind: api.Element, Tag: "head", Parts: []api.Part{{Kind: api.Number}}}
	c.View, c.Over, c.Least, c.Cap, c.Arena, c.Flaw = 30, 1, 2, 8, 60, flaw
	c.Kinds = []api.Kind{{Template: row, Base: 10, Pool: 2}, {Template: head, Base: 6, Sticky: true, Pool: 1}}
	return c
}

// flawed returns a configuration with a flaw, and a height of the viewport.
func flawed(c api.Config, flaw uint8, view int64) api.Config {
	c.Flaw, c.View = flaw, view
	return c
}

func insert(at int, keys ...uint64) api.Event {
	n := api.Notice{Kind: api.Insert, At: at}
	for _, key := range keys {
		n.Items = append(n.Items, api.Item{Key: key, Text: "x", Type: uint8(min(key/100, 1))})
	}
	return api.Event{Kind: api.Batch, Notices: []api.Notice{n}}
}

func reset() api.Event {
	return api.Event{Kind: api.Batch, Notices: []api.Notice{{Kind: api.Reset}}}
}

func to(kind uint8, x int64) api.Event { return api.Event{Kind: kind, To: x} }

func reveal(key uint64) api.Event { return api.Event{Kind: api.Reveal, Key: key} }

// engine returns an engine behind events.
func engine(t *testing.T, c api.Config, l ...api.Event) *engines.Engine {
	t.Helper()
	g, e := engines.New(c)
	if e != api.OK {
		t.Fatal(e)
	}
	for _, x := range l {
		g.Do(x)
	}
	return g
}

// model returns a model behind events.
func model(c api.Config, l ...api.Event) models.Model {
	m, _ := models.New(c)
	for _, x := range l {
		m, _ = m.Do(x)
	}
	return m
}

func TestP41_1Names(t *testing.T) {
	names := []audits.Rule{audits.Known, audits.Attached, audits.Tops, audits.Trees, audits.Roots, audits.Pools, audits.Bound, audits.Clamped, audits.Head}
	expect(t, "the rules", names, []audits.Rule{1, 2, 3, 4, 5, 6, 7, 8, 9})
}

func TestP41_1Rules(t *testing.T) {
	expect(t, "Rules", all(audits.Rules(engine(t, config()))), all("[]", 0))
	events := []api.Event{insert(0, 100, 1, 101, 2, 3, 4, 5), to(api.ScrollTo, 8), to(api.ScrollTo, 14)}
	for i, x := range []struct {
		spoil func(g *engines.Engine)
		want  []audits.Rule
	}{
		{func(g *engines.Engine) {}, nil},
		{func(g *engines.Engine) { g.Dom().Place(g.Rows()[1].Root, 7, 10, false) }, []audits.Rule{audits.Tops}}, {func(g *engines.Engine) { g.Dom().Place(g.Rows()[1].Root, 6, 11, false) }, []audits.Rule{audits.Tops}},
		{func(g *engines.Engine) { g.Dom().Place(g.Rows()[1].Root, 6, 10, true) }, []audits.Rule{audits.Head}}, {func(g *engines.Engine) { g.Dom().Place(g.Rows()[0].Root, 11, 6, true) }, []audits.Rule{audits.Head}}, {func(g *engines.Engine) { g.Dom().Place(g.Rows()[0].Root, 0, 6, false) }, []audits.Rule{audits.Head}},
		{func(g *engines.Engine) { g.Dom().SetAttr(g.Rows()[1].Root, "a", "") }, []audits.Rule{audits.Trees}}, {func(g *engines.Engine) { g.Dom().Element("other") }, []audits.Rule{audits.Roots}}, {func(g *engines.Engine) { g.Dom().Remove(g.Rows()[1].Root) }, []audits.Rule{audits.Roots}},
		{func(g *engines.Engine) { g.Dom().Move(g.Rows()[1].Root, api.Handle{}) }, []audits.Rule{audits.Roots}},
		{func(g *engines.Engine) {
			g.Dom().Remove(g.Rows()[1].Root)
			g.Dom().Free(g.Rows()[1].Root)
		}, []audits.Rule{audits.Tops, audits.Trees, audits.Roots, audits.Head}},
		{func(g *engines.Engine) {
			for range 60 {
				g.Dom().Element("other")
			}
		}, []audits.Rule{audits.Roots, audits.Bound}},
	} {
		g := engine(t, rich(0), events...)
		x.spoil(g)
		expect(t, fmt.Sprint("Rules ", i), all(audits.Rules(g)), all(x.want, 0))
	}
	for _, g := range []*engines.Engine{nil, {}} {
		expect(t, "Rules", all(audits.Rules(g)), all("[]", api.ErrNil))
	}
}

func TestP41_2Differ(t *testing.T) {
	base := []api.Event{insert(0, 1, 2, 3, 4, 5)}
	for i, x := range []struct {
		c    api.Config
		g, m []api.Event
		want string
	}{
		{config(), base, base, ""}, {config(), base, []api.Event{insert(0, 1, 2, 3, 4)}, "list"}, {config(), base, append(base, to(api.Resize, 24)), "view"}, {config(), base, append(base, to(api.ScrollTo, 5)), "offset"},
		{config(), base, append(base, to(api.ScrollTo, 0)), "rounds"}, {config(), append(base, to(api.ScrollTo, 1), to(api.ScrollTo, 10), to(api.ScrollTo, 9)), append(base, to(api.ScrollTo, 10), to(api.ScrollTo, 9), to(api.ScrollTo, 9)), "counts"},
		{config(), append(base, to(api.Resize, 5), to(api.ScrollTo, 0), to(api.Resize, 5)), append(base, to(api.Resize, 5), to(api.Trim, 0), to(api.Resize, 5)), "live"}, {config(), nil, nil, ""},
	} {
		expect(t, fmt.Sprint("Differ ", i), audits.Differ(engine(t, x.c, x.g...), model(x.c, x.m...)), x.want)
	}
	g, m := engine(t, config(), base...), model(config(), base...)
	g.Dom().Place(g.Rows()[2].Root, 21, 10, false)
	expect(t, "Differ", audits.Differ(g, m), "slice")
	more := append(base, to(api.Resize, 5), to(api.ScrollTo, 12), to(api.ScrollTo, 12))
	twice := append(base, to(api.Resize, 15), to(api.Resize, 5), to(api.ScrollTo, 12), to(api.ScrollTo, 12))
	expect(t, "Differ", audits.Differ(engine(t, config(), more...), model(config(), twice...)), "pools")
	changed := rich(0)
	changed.Kinds[0].Template.Parts[0].Kind = api.Number
	expect(t, "Differ", audits.Differ(engine(t, rich(0), base...), model(changed, base...)), "rows")
	none := models.Model{}
	expect(t, "Differ", all(audits.Differ(nil, none), audits.Differ(&engines.Engine{}, none), audits.Differ(nil, m), audits.Differ(engine(t, config()), none), audits.Differ(engine(t, config(), base...), none)), all("", "", "list", "view", "list"))
}

func TestP41_3Compare(t *testing.T) {
	l := []api.Event{insert(0, 1, 2, 3, 4, 5), to(api.ScrollBy, 20)}
	expect(t, "Compare", all(audits.Compare(config(), l)), all(audits.Finding{}, api.ErrNone))
	expect(t, "Compare", all(audits.Compare(flawed(config(), 6, 25), []api.Event{insert(0, 1, 2, 3, 4, 5), reveal(3), insert(0, 9)})), all(audits.Finding{At: 2, What: "offset"}, 0))
	expect(t, "Compare", all(audits.Compare(flawed(config(), 3, 45), []api.Event{l[0], reset()})), all(audits.Finding{At: 1, What: "counts"}, 0))
	small := flawed(config(), 3, 25)
	small.Arena = 7
	expect(t, "Compare of an answer", all(audits.Compare(small, []api.Event{l[0], reset(), l[0], reset(), to(api.Resize, 35), insert(0, 1, 2, 3, 4, 5)})), all(audits.Finding{At: 1, What: "counts"}, 0))
	expect(t, "Compare", all(audits.Compare(api.Config{}, l)), all(audits.Finding{}, api.ErrConfig))
	expect(t, "Compare", all(audits.Compare(config(), nil)), all(audits.Finding{}, api.ErrNone))
	five := flawed(config(), 5, 25)
	five.Arena = 7
	expect(t, "Compare behind a refused event", all(audits.Compare(five, []api.Event{l[0], to(api.Resize, 50)})), all(audits.Finding{At: 1, What: "list"}, 0))
}

func TestP41_4Broken(t *testing.T) {
	expect(t, "Broken", all(audits.Broken(flawed(config(), 3, 45), []api.Event{insert(0, 1, 2, 3, 4, 5), reset()})), all(1, []audits.Rule{audits.Pools}, 0))
	expect(t, "Broken", all(audits.Broken(rich(4), []api.Event{to(api.ScrollTo, 3), insert(0, 100, 1, 101, 2, 3, 4), to(api.ScrollTo, 14)})), all(2, []audits.Rule{audits.Head}, 0))
	expect(t, "Broken", all(audits.Broken(rich(0), []api.Event{insert(0, 100, 1, 101, 2, 3, 4), to(api.ScrollTo, 14)})), all(0, "[]", api.ErrNone))
	five := rich(5)
	five.View, five.Over, five.Arena = 20, 0, 8
	up := to(api.Resize, 60)
	up.Heights = []api.Height{{Key: 3, Size: 30}, {Key: 4, Size: 30}}
	expect(t, "Broken", all(audits.Broken(five, []api.Event{insert(0, 1, 2, 3, 4, 5, 6), reveal(5), up})), all(2, []audits.Rule{audits.Attached, audits.Tops}, 0))
	up.Heights = []api.Height{{Key: 3, Size: 2}, {Key: 4, Size: 2}}
	expect(t, "Broken: Attached is not looked at", all(audits.Broken(five, []api.Event{insert(0, 1, 2, 3, 4, 5, 6), reveal(5), up})), all(2, []audits.Rule{audits.Tops, audits.Clamped}, 0))
	expect(t, "Broken", all(audits.Broken(api.Config{}, nil)), all(0, "[]", api.ErrConfig))
}

// TestP41_5Consequences lets engines with all flaws do the same events.
func TestP41_5Consequences(t *testing.T) {
	broken := map[uint8]map[audits.Rule]bool{}
	for flaw := range uint8(7) {
		broken[flaw] = map[audits.Rule]bool{}
		seed := uint32(97)
		next := func(n int) int {
			seed = seed*1664525 + 1013904223
			return int(seed>>8) % n
		}
		differs := false
		for range 25 {
			var l []api.Event
			n := 0
			for i := range 30 {
				x := api.Event{Kind: api.Batch}
				at := next(n + 1)
				switch next(6) {
				case 0, 1:
					item := api.Item{Key: uint64(i + 1), Type: uint8(next(4) / 3), Marks: []string{"u", "v", "w"}[:next(4)]}
					x.Notices = []api.Notice{{Kind: api.Insert, At: at, Items: []api.Item{item, {Key: uint64(i + 40)}, {Key: uint64(i + 80)}}}}
					n += 3
				case 2:
					x = to(api.ScrollTo, int64(next(10*n+1)))
				case 3:
					x = to(api.Resize, int64(1+next(80)))
				case 4:
					x.Notices = []api.Notice{{Kind: api.Remove, At: at, Count: min(1, n-at)}}
					n -= min(1, n-at)
				default:
					x = to(api.ScrollBy, int64(next(40)-20))
				}
				for k := range 10 {
					x.Heights = append(x.Heights, api.Height{Key: uint64(1 + next(11) + 11*k), Size: int64(2 + next(30))})
				}
				l = append(l, x)
			}
			c := rich(flaw)
			c.Arena = 30 + next(60)
			g, _ := engines.New(c)
			for _, x := range l {
				g.Do(x)
				rules, _ := audits.Rules(g)
				for _, r := range rules {
					broken[flaw][r] = true
				}
			}
			f, e := audits.Compare(c, l)
			differs = differs || e == api.OK
			if flaw == 0 && e != api.ErrNone {
				t.Fatal("an engine without a flaw differs", f)
			}
		}
		if differs != (flaw > 0) {
			t.Error("no event tells the flaw", flaw)
		}
	}
	delete(broken, 5) // of which nothing is said
	expect(t, "the rules that are broken", broken, map[uint8]map[audits.Rule]bool{0: {}, 1: {audits.Trees: true}, 2: {}, 3: {audits.Pools: true}, 4: {audits.Head: true}, 6: {}})
}
