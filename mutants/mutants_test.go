package mutants_test

import (
	"fmt"
	"slices"
	"strings"
	"testing"

	"paternoster/api"
	"paternoster/audits"
	"paternoster/mutants"
	"paternoster/scripts"
)

// expect fails unless two values are written alike.
func expect(t *testing.T, what string, got, want any) {
	t.Helper()
	if g, w := fmt.Sprintf("%v", got), fmt.Sprintf("%v", want); g != w {
		t.Errorf("%s: %s, expected %s", what, g, w)
	}
}

func all(l ...any) []any { return l }

func script(t *testing.T, flaw uint8) scripts.Script {
	t.Helper()
	s, e := mutants.Script(flaw)
	if e != api.OK {
		t.Fatal(e)
	}
	return s
}

// ahead returns a script with an event put in first.
func ahead(s scripts.Script, x api.Event) scripts.Script {
	s.Events = append([]api.Event{x}, s.Events...)
	return s
}

func trim() api.Event { return api.Event{Kind: api.Trim, To: 1} }

func TestP43_1Script(t *testing.T) {
	config := "config 20 0 1 64 100 0; kind 10 1 plain; element row -; each m; end; end; kind 6 0 sticky; element head -; number; end; "
	marks := "m0,m1,m2,m3,m4,m5,m6,m7 "
	for flaw, want := range map[uint8]string{
		1: "batch 4; insert 0 3; 1 0 a ; 2 0 - ; 3 0 - ; scrollto 10", 2: "batch 7; insert 0 6; 100 1 - ; 1 0 - ; 2 0 - ; 3 0 - ; 4 0 - ; 5 0 - ; scrollto 16; batch 2; change 0 1; 100 1 - ; heights 1; 100 20",
		3: "batch 3; insert 0 2; 1 0 - ; 2 0 - ; batch 1; reset 0", 4: "batch 6; insert 0 5; 100 1 - ; 1 0 - ; 101 1 - ; 2 0 - ; 3 0 - ; scrollto 14",
		5: "batch 7; insert 0 6; 1 0 " + marks + "; 2 0 " + marks + "; 3 0 " + marks + "; 4 0 " + marks + "; 5 0 " + marks + "; 6 0 " + marks + "; resize 70", 6: "batch 5; insert 0 4; 1 0 - ; 2 0 - ; 3 0 - ; 4 0 - ; batch 2; insert 0 1; 5 0 - ",
	} {
		text, e := scripts.Text(script(t, flaw))
		expect(t, "Script", all(text, e), all(strings.ReplaceAll(config+want, "; ", "\n")+"\n", 0))
	}
	for _, flaw := range []uint8{0, 7, 255} {
		s, e := mutants.Script(flaw)
		expect(t, "Script", all(scripts.Same(s, scripts.Script{}), e), all(true, api.ErrArg))
	}
	s := script(t, 1)
	s.Events[0].Notices[0].Items[0].Marks[0] = "new"
	expect(t, "new memory", script(t, 1).Events[0].Notices[0].Items[0].Marks[0], "a")
}

func TestP43_2Tells(t *testing.T) {
	for flaw, want := range map[uint8]audits.Finding{1: {At: 1, What: "live"}, 2: {At: 2, What: "offset"}, 3: {At: 1, What: "counts"}, 4: {At: 1, What: "slice"}, 5: {At: 1, What: "list"}, 6: {At: 1, What: "list"}} {
		expect(t, "Tells", all(mutants.Tells(script(t, flaw), flaw)), all(want, 0))
		expect(t, "Tells", all(mutants.Tells(script(t, flaw), 0)), all(audits.Finding{}, api.ErrNone))
	}
	flawed := script(t, 6)
	flawed.Config.Flaw = 6
	expect(t, "the Flaw of the script does not matter", all(mutants.Tells(flawed, 0)), all(audits.Finding{}, api.ErrNone))
	bad := script(t, 6)
	bad.Events[0].Kind = 0
	for _, x := range []struct {
		s    scripts.Script
		flaw uint8
		e    api.Errno
	}{{scripts.Script{}, 7, api.ErrConfig}, {bad, 7, api.ErrArg}, {bad, 1, api.ErrArg}, {script(t, 6), 7, api.ErrArg}, {script(t, 6), 255, api.ErrArg}, {script(t, 6), 4, api.ErrNone}} {
		expect(t, "Tells", all(mutants.Tells(x.s, x.flaw)), all(audits.Finding{}, x.e))
		expect(t, "Minimal", all(mutants.Minimal(x.s, x.flaw)), all(false, x.e))
		s, e := mutants.Smaller(x.s, x.flaw)
		expect(t, "Smaller", all(scripts.Same(s, scripts.Script{}), e), all(true, x.e))
	}
}

func TestP43_3MinimalSmaller(t *testing.T) {
	long := ahead(script(t, 6), trim())
	expect(t, "Minimal", all(mutants.Minimal(long, 6)), all(false, 0))
	s, e := mutants.Smaller(long, 6)
	expect(t, "Smaller", all(scripts.Same(s, script(t, 6)), e, len(long.Events)), all(true, 0, 3))
	behind := script(t, 4)
	behind.Events = append(behind.Events, trim(), trim())
	s, e = mutants.Smaller(behind, 4)
	expect(t, "Smaller", all(scripts.Same(s, script(t, 4)), e), all(true, 0))
	middle := script(t, 2)
	middle.Events = slices.Insert(middle.Events, 1, trim(), api.Event{Kind: api.Reveal, Key: 5}, api.Event{Kind: api.ScrollTo})
	s, e = mutants.Smaller(middle, 2)
	minimal, f := mutants.Minimal(s, 2)
	expect(t, "Smaller", all(e, minimal, f, len(s.Events) < len(middle.Events)), all(0, true, 0, true))
}

func TestP43_4Caught(t *testing.T) {
	expect(t, "Caught", all(mutants.Caught(script(t, 3))), all([]uint8{3}, 0))
	both := script(t, 3)
	both.Events = append(both.Events, script(t, 6).Events...)
	expect(t, "Caught", all(mutants.Caught(both)), all([]uint8{3, 6}, 0))
	none := script(t, 3)
	none.Events = nil
	expect(t, "Caught", all(mutants.Caught(none)), all("[]", 0))
	expect(t, "Caught", all(mutants.Caught(scripts.Script{})), all("[]", api.ErrConfig))
}

func TestP43_5Consequences(t *testing.T) {
	for flaw := uint8(1); flaw <= mutants.Flaws; flaw++ {
		s := script(t, flaw)
		_, e := mutants.Tells(s, flaw)
		minimal, f := mutants.Minimal(s, flaw)
		same, g := mutants.Smaller(s, flaw)
		expect(t, "the script of a flaw", all(e, minimal, f, scripts.Same(s, same), g), all(0, true, 0, true, 0))
		for other := uint8(1); other <= mutants.Flaws; other++ {
			long := script(t, other)
			long.Events = append(long.Events, s.Events...)
			small, e := mutants.Smaller(long, flaw)
			if e != api.OK {
				continue
			}
			minimal, _ := mutants.Minimal(small, flaw)
			_, f := mutants.Tells(small, flaw)
			_, g := mutants.Tells(long, 0)
			expect(t, "a smaller script", all(minimal, f, g), all(true, 0, api.ErrNone))
		}
	}
}
