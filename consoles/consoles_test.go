package consoles_test

import (
	"fmt"
	"strings"
	"testing"

	"paternoster/api"
	"paternoster/consoles"
	"paternoster/mutants"
	"paternoster/scripts"
)

// expect fails unless two values are written alike.
func expect(t *testing.T, what string, got, want any) {
	t.Helper()
	if g, w := fmt.Sprintf("%v", got), fmt.Sprintf("%v", want); g != w {
		t.Errorf("%s: %s, expected %s", what, g, w)
	}
}

func all(l ...any) []any { return l }

// console returns a console behind lines that have to be possible.
func console(t *testing.T, lines ...string) *consoles.Console {
	t.Helper()
	c := consoles.New()
	for _, line := range lines {
		if _, e := c.Do(line); e != api.OK {
			t.Fatal(line, e)
		}
	}
	return c
}

// say is a line, and what has to come of it: a reply, or the number of an error.
type say struct{ line, reply string }

// talk fails unless lines have these replies.
func talk(t *testing.T, c *consoles.Console, l ...say) {
	t.Helper()
	for _, x := range l {
		before := c.Script()
		reply, e := c.Do(x.line)
		if e != api.OK {
			if reply != "" || !scripts.Same(before, c.Script()) {
				t.Errorf("%s: a reply, or a change, together with an error", x.line)
			}
			reply = fmt.Sprint("error ", int(e))
		}
		if reply != x.reply {
			t.Errorf("%s: %s, expected %s", x.line, reply, x.reply)
		}
	}
}

const beginning = "config 25 0 1 8 1000 0|kind 10 2 plain|element row -|field|end|kind 6 1 sticky|element head -|number|end"

func TestP45_1NewCopyScript(t *testing.T) {
	c := console(t)
	talk(t, c, say{"text", beginning})
	c.Do("insert 0 0 1 2")
	other := c.Copy()
	other.Do("by 5")
	c.Do("view 30")
	expect(t, "Copy", all(len(c.Script().Events), c.Script().Config.View, len(other.Script().Events), other.Script().Config.View), all(1, 30, 2, 25))
	s := c.Script()
	s.Events[0].Notices[0].Items[0].Key, s.Config.Kinds[0].Template.Parts[0].Kind = 99, 99
	expect(t, "Script is new memory", all(c.Script().Events[0].Notices[0].Items[0].Key, c.Script().Config.Kinds[0].Template.Parts[0].Kind), all(1, api.Field))
	for _, c := range []*consoles.Console{nil, {}} {
		reply, e := c.Do("foo")
		expect(t, "nil", all(reply, e, len(c.Play([]string{"new"})), scripts.Same(c.Script(), scripts.Script{}), c.Copy() == nil), all("", api.ErrNil, 0, true, true))
	}
}

func TestP45_2Parse(t *testing.T) {
	for _, x := range []struct {
		line string
		n    []int64
		text string
	}{
		{"new", nil, ""}, {"view -5", []int64{-5}, ""}, {"flaw 999999999999999999", []int64{999999999999999999}, ""}, {"base 3 -999999999999999999", []int64{3, -999999999999999999}, ""}, {"reveal 0", []int64{0}, ""}, {"insert 1 2 3", []int64{1, 2, 3}, ""},
		{"insert 1 2 3 4 5", []int64{1, 2, 3, 4, 5}, ""}, {"remove 1 2", []int64{1, 2}, ""}, {"move 1 2 -3", []int64{1, 2, -3}, ""}, {"change 1 2 3", []int64{1, 2, 3}, ""}, {"change 1 2 3 ", []int64{1, 2, 3}, ""}, {"change 1 2 3  a 4 ", []int64{1, 2, 3}, " a 4 "},
		{"reset 1", []int64{1}, ""}, {"reset 1 2 3", []int64{1, 2, 3}, ""}, {"measured 1 -2", []int64{1, -2}, ""}, {"measured 1 -2 3 4", []int64{1, -2, 3, 4}, ""}, {"heights", nil, ""}, {"heights 1 2", []int64{1, 2}, ""}, {"load ", nil, ""}, {"load a|b  c", nil, "a|b  c"},
		{"bound", nil, ""}, {"insert" + strings.Repeat(" 1", 40), make([]int64, 40), ""}, {"load " + strings.Repeat("x", consoles.MaxLine-5), nil, strings.Repeat("x", consoles.MaxLine-5)},
	} {
		call, e := consoles.Parse(x.line)
		if len(x.n) == 40 {
			for i := range x.n {
				x.n[i] = 1
			}
		}
		word, _, _ := strings.Cut(x.line, " ")
		expect(t, fmt.Sprintf("Parse of %.40q", x.line), all(call.Word, call.N, call.Text == x.text, e), all(word, x.n, true, 0))
	}
	for _, line := range []string{
		"", " ", "foo", "New", "new ", "new 1", " new", "view", "view ", "view 1 2", "view  1", "view 1 ", "view 01", "view -0", "view -", "view +1", "view x", "view 1000000000000000000", "view -1000000000000000000", "flaw -1", "flaw", "base 1", "base -1 1", "pool 1 2 3",
		"reveal -1", "insert 1 2", "insert 1 2 ", "insert -1 2 3", "insert 1 -2 3", "insert 1 2 -3", "insert 1 2 3 x", "insert 1 2 3 ", "remove 1", "remove 1 -2", "remove -1 2", "move 1 2", "move 1 2 3 4", "change 1 2", "change 1 2 x", "change 1 2 3 a|b", "reset", "reset -1", "measured", "measured 1",
		"measured 1 2 3", "measured -1 2", "heights 1", "heights ", "heights 1 2 3", "cut -1", "drop", "load", "rows 1", "text x", "mutant x", "insert" + strings.Repeat(" 1", 41), "heights" + strings.Repeat(" 1 1", 21), "load \x1f", "load é", "text\n", "change 0 0 1 \x7f", strings.Repeat("x", consoles.MaxLine),
	} {
		expect(t, fmt.Sprintf("Parse of %.40q", line), all(consoles.Parse(line)), all(consoles.Call{}, api.ErrForm))
	}
	expect(t, "limits", all(consoles.MaxLine, consoles.MaxNumbers), all(1048576, 40))
	expect(t, "Parse", all(consoles.Parse(strings.Repeat("\n", consoles.MaxLine+1))), all(consoles.Call{}, api.ErrLimit))
}

func TestP45_3Changes(t *testing.T) {
	c := console(t)
	talk(t, c, []say{
		{"view 30", "ok"}, {"over 2", "ok"}, {"least 2", "ok"}, {"arena 500", "ok"}, {"flaw 6", "ok"}, {"base 1 7", "ok"}, {"pool 0 3", "ok"}, {"text", "config 30 2 2 8 500 6|kind 10 3 plain|element row -|field|end|kind 7 1 sticky|element head -|number|end"},
		{"view 0", "error 7"}, {"over 17", "error 7"}, {"least 8", "error 7"}, {"arena 65537", "error 7"}, {"flaw 7", "error 7"}, {"flaw 256", "error 4"}, {"flaw 255", "error 7"}, {"base 2 10", "error 4"}, {"base 0 1", "error 7"}, {"pool 1 17", "error 7"}, {"pool 2 1", "error 4"}, {"foo", "error 5"}, {"heights", "error 11"}, {"heights 1 2", "error 11"},
		{"new", "ok"}, {"text", beginning}, {"insert 0 0 1 2 3", "0 0"}, {"to 5", "1 0"}, {"by -2", "2 0"}, {"resize 40", "3 0"}, {"resize -4", "4 4"}, {"trim 3", "5 0"}, {"trim 17", "6 4"}, {"reveal 2", "7 0"}, {"reveal 9", "8 11"}, {"remove 0 1", "9 0"}, {"move 0 1 1", "10 0"}, {"move 0 1 -1", "11 4"},
		{"change 1 0 2 a b", "12 0"}, {"change 1 0 2", "13 0"}, {"reset 1 100 101", "14 0"}, {"reset 0", "15 0"}, {"insert 0 1 7", "16 0"}, {"measured 7 9", "17 0"}, {"heights 7 8", "17 0"}, {"heights 6 8", "17 11"}, {"heights", "17 0"},
		{"text", beginning + "|batch 4|insert 0 3|1 0 - item 1|2 0 - item 2|3 0 - item 3|scrollto 5|scrollby -2|resize 40|resize -4|trim 3|trim 17|reveal 2|reveal 9|batch 1|remove 0 1|batch 1|move 0 1 1|batch 1|move 0 1 -1|batch 2|change 1 1|2 0 - a b|batch 2|change 1 1|2 0 - |batch 3|reset 2|100 1 - item 100|101 1 - item 101|batch 1|reset 0|batch 2|insert 0 1|7 1 - item 7|measured"},
		{"insert 0 8 1", "error 6"}, {"insert 0 256 1", "error 4"}, {"insert 0 255 1", "error 6"}, {"reset 256", "error 4"}, {"change 0 256 1", "error 4"}, {"insert 0 0 0", "error 6"}, {"measured 0 1", "error 9"}, {"measured 1 0", "error 12"}, {"measured 1 1 1 2", "error 8"}, {"heights 1 0", "error 12"}, {"change 0 0 1 " + strings.Repeat("x", 65), "error 6"},
		{"insert 0 2 5", "18 6"}, {"cut 20", "error 4"}, {"cut 2", "ok"}, {"drop 2", "error 4"}, {"drop 0", "ok"}, {"text", beginning + "|scrollto 5"}, {"cut 0", "ok"}, {"text", beginning}, {"drop 0", "error 4"},
		{"mutant 0", "error 1"}, {"mutant 7", "error 1"}, {"mutant 256", "error 4"}, {"mutant 255", "error 1"}, {"load ", "error 5"}, {"load x", "error 5"}, {"load config 25 0 1 64 100 0", "error 7"}, {"load " + beginning + "|heights 1|1 0", "error 5"}, {"load " + beginning + "|trim 1|heights 1|1 0", "error 12"},
		{"load " + beginning + "|trim 1", "ok"}, {"answers", "0"}, {"mutant 4", "ok"}, {"caught", "4"},
	}...)
	s, _ := mutants.Script(4)
	expect(t, "mutant", scripts.Same(c.Script(), s), true)
	long := console(t)
	for range api.MaxEvents / 4 {
		s.Events = append(s.Events, api.Event{Kind: api.Trim}, api.Event{Kind: api.Trim}, api.Event{Kind: api.Trim}, api.Event{Kind: api.Trim})
	}
	s.Events = s.Events[len(s.Events)-api.MaxEvents:]
	text, _ := scripts.Text(s)
	talk(t, long, say{"load " + strings.ReplaceAll(strings.TrimSuffix(text, "\n"), "\n", "|"), "ok"}, say{"trim 1", "error 3"}, say{"cut 1023", "ok"}, say{"trim 1", "1023 0"})
}

func TestP45_4Questions(t *testing.T) {
	c := console(t)
	talk(t, c, []say{
		{"list", "none"}, {"offset", "0"}, {"rows", "none"}, {"lines", "none"}, {"seen", "offset 0"}, {"counts", "rounds 0 rebound 0 made 0 dropped 0"}, {"dom", "live 1 created 1 freed 0 inserted 0 removed 0 moved 0 wrote 0 placed 0"}, {"pools", "0 0"}, {"answers", "none"}, {"cost", "error 11"}, {"audit", "none"},
		{"compare", "same"}, {"caught", "none"}, {"report", "answers|view 25|offset 0|total 0|items 0 0|cost 0 0 0 0 0 0 0 0 0 0 0|rules|same"}, {"bound", "rows 27 live 241"},
		{"insert 0 0 1 2 3 4 5", "0 0"}, {"rows", "1 2 3"}, {"counts", "rounds 1 rebound 0 made 3 dropped 0"}, {"by 20", "1 0"}, {"heights 4 40", "1 0"}, {"rows", "3 4"}, {"lines", "3 20 10 2|4 30 40 2"},
		{"cost", "created 0 freed 0 inserted 1 removed 2 moved 0 wrote 1 placed 1 rounds 1 rebound 1 made 0 dropped 0"}, {"list", "1:10 2:10 3:10 4:40 5:10"}, {"pools", "1 0"}, {"offset", "20"}, {"answers", "0 0"},
		{"flaw 7", "error 7"}, {"base 2 10", "error 4"}, {"reveal 9", "2 11"}, {"cost", "error 11"}, {"answers", "0 0 11"}, {"cut 2", "ok"},
		{"seen", `offset 20|row 3 0 10 <row>"item 3"</row>|row 4 10 40 <row>"item 4"</row>`}, {"dom", "live 7 created 7 freed 0 inserted 7 removed 2 moved 0 wrote 1 placed 4"},
		{"report", "answers 0 0|view 25|offset 20|total 80|items 5 5|cost 6 0 7 2 0 1 4 2 1 3 0|rules|same|line 3 0 20 10 free 2|line 4 0 30 40 free 2"}, {"view 60", "ok"}, {"bound", "rows 62 live 521"},
		{"new", "ok"}, {"insert 0 1 100", "0 0"}, {"insert 1 0 1 2 3 4 5", "1 0"}, {"list", "100:6 1:10 2:10 3:10? 4:10? 5:10?"}, {"cut 1", "ok"}, {"insert 1 0 1 2 3", "1 0"}, {"to 4", "2 0"}, {"lines", "100 4 6 2 pinned|1 6 10 2|2 16 10 2|3 26 10 2"}, {"seen", `offset 4|row 1 2 10 <row>"item 1"</row>|row 2 12 10 <row>"item 2"</row>|row 3 22 10 <row>"item 3"</row>|head 100 0 6 <head>"100"</head>`},
		{"mutant 3", "ok"}, {"audit", "none"}, {"caught", "3"}, {"flaw 3", "ok"}, {"audit", "1: 6"}, {"compare", "1 counts"}, {"mutant 6", "ok"}, {"flaw 6", "ok"}, {"compare", "1 list"}, {"audit", "none"},
	}...)
	before := c.Script()
	for _, line := range strings.Fields("text list offset rows lines seen counts dom pools answers cost audit compare caught report bound") {
		if _, e := c.Do(line); e != api.OK || !scripts.Same(before, c.Script()) {
			t.Error("a line that asks changes something", line, e)
		}
	}
}

func TestP45_5Play(t *testing.T) {
	c := console(t)
	got := c.Play([]string{"insert 0 0 1", "foo", "rows", "view 0", "new", "rows"})
	expect(t, "Play", got, []consoles.Answer{{Reply: "0 0"}, {E: api.ErrForm}, {Reply: "1"}, {E: api.ErrConfig}, {Reply: "ok"}, {Reply: "none"}})
	expect(t, "Play", len(c.Play(nil)), 0)
}

func TestP45_6Consequences(t *testing.T) {
	seed := uint32(101)
	next := func(n int) int {
		seed = seed*1664525 + 1013904223
		return int(seed>>8) % n
	}
	c := console(t)
	for i := range 150 {
		line := []string{
			fmt.Sprint("insert ", next(4), " ", next(2), " ", i+1, " ", 1000+i), fmt.Sprint("to ", next(100)), fmt.Sprint("by ", next(60)-30), fmt.Sprint("remove ", next(5), " ", next(3)), fmt.Sprint("resize ", next(60)), fmt.Sprint("move 0 1 ", next(4)),
			fmt.Sprint("heights ", next(150)+1, " ", next(30)), fmt.Sprint("trim ", next(3)), fmt.Sprint("change 0 0 ", next(150), " x y"), fmt.Sprint("view ", next(50)), fmt.Sprint("over ", next(4)), fmt.Sprint("drop ", next(30)), fmt.Sprint("pool 0 ", next(3)),
		}[next(13)]
		c.Do(line)
		if scripts.Check(c.Script()) != api.OK {
			t.Fatal("the script is not valid behind", line)
		}
		if i%10 > 0 {
			continue
		}
		text, _ := c.Do("text")
		other := console(t, "load "+text)
		if !scripts.Same(other.Script(), c.Script()) {
			t.Fatal("what text replies is another script", text)
		}
		talk(t, c, say{"audit", "none"}, say{"compare", "same"})
		for _, ask := range strings.Fields("text list offset rows lines seen counts dom pools answers cost report bound") {
			a, e := c.Do(ask)
			b, f := other.Do(ask)
			expect(t, "two consoles with the same script", all(b, f), all(a, e))
		}
	}
}
