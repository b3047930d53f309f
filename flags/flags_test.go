package flags_test

import (
	"fmt"
	"math"
	"slices"
	"strings"
	"testing"

	"paternoster/api"
	"paternoster/flags"
	"paternoster/spans"
)

// expect fails unless two values are written alike.
func expect(t *testing.T, what string, got, want any) {
	t.Helper()
	if g, w := fmt.Sprint(got), fmt.Sprint(want); g != w {
		t.Errorf("%s: %s, expected %s", what, g, w)
	}
}

func all(l ...any) []any { return l }

// list returns a list with the bits of a text.
func list(t *testing.T, text string) *flags.Flags {
	t.Helper()
	f, e := flags.New(len(text))
	if e != api.OK {
		t.Fatal(e)
	}
	for i := range text {
		if e := f.Set(i, text[i] == '1'); e != api.OK {
			t.Fatal(e)
		}
	}
	return f
}

// text returns the bits of a list.
func text(f *flags.Flags) string {
	var out strings.Builder
	for i := range f.Len() {
		if v, _ := f.Get(i); v {
			out.WriteByte('1')
		} else {
			out.WriteByte('0')
		}
	}
	return out.String()
}

func TestP4_1NewLenCountCopy(t *testing.T) {
	for _, n := range []int{0, 1, 63, 64, 65, api.MaxList} {
		f, e := flags.New(n)
		expect(t, "New", all(f.Len(), f.Count(), e, text(f)), all(n, 0, 0, strings.Repeat("0", n)))
	}
	for n, want := range map[int]api.Errno{-1: api.ErrRange, math.MinInt: api.ErrRange, api.MaxList + 1: api.ErrLimit, math.MaxInt: api.ErrLimit} {
		f, e := flags.New(n)
		expect(t, "New", all(f == nil, e), all(true, want))
	}
	f := list(t, "01101")
	g := f.Copy()
	f.Set(0, true)
	g.Insert(5, 1, true)
	expect(t, "Copy", all(text(f), text(g), f.Count(), g.Count()), all("11101", "011011", 4, 4))
}

func TestP4_2GetSet(t *testing.T) {
	f := list(t, "01101")
	expect(t, "Set", all(f.Set(0, true), f.Set(1, false), f.Set(2, true), text(f)), all(0, 0, 0, "10101"))
	for _, i := range []int{-1, 5, 64, math.MinInt, math.MaxInt} {
		expect(t, "Get", all(f.Get(i)), all(false, api.ErrRange))
		expect(t, "Set", all(f.Set(i, true), text(f)), all(api.ErrRange, "10101"))
	}
}

func TestP4_3RankSelect(t *testing.T) {
	f := list(t, "01101")
	for i, want := range []int{0, 0, 1, 2, 2, 3} {
		expect(t, "Rank", all(f.Rank(i)), all(want, 0))
	}
	for k, want := range []int{1, 2, 4} {
		expect(t, "Select", all(f.Select(k)), all(want, 0))
	}
	for _, i := range []int{-1, 6, math.MinInt, math.MaxInt} {
		expect(t, "Rank", all(f.Rank(i)), all(0, api.ErrRange))
		expect(t, "Select", all(f.Select(i)), all(0, api.ErrNone))
	}
	expect(t, "Select", all(f.Select(3)), all(0, api.ErrNone))
	full := list(t, strings.Repeat("1", api.MaxList))
	expect(t, "Rank", all(full.Rank(api.MaxList)), all(api.MaxList, 0))
	expect(t, "Select", all(full.Select(api.MaxList-1)), all(api.MaxList-1, 0))
	expect(t, "Select", all(full.Select(api.MaxList)), all(0, api.ErrNone))
}

func TestP4_4Next(t *testing.T) {
	f := list(t, "01101")
	for _, x := range []struct {
		i    int
		v    bool
		want int
		e    api.Errno
	}{
		{0, true, 1, 0}, {3, true, 4, 0}, {1, false, 3, 0}, {5, false, 0, api.ErrNone}, {4, false, 0, api.ErrNone},
		{5, true, 0, api.ErrNone}, {-1, true, 0, api.ErrRange}, {6, true, 0, api.ErrRange}, {math.MaxInt, false, 0, api.ErrRange},
	} {
		expect(t, "Next", all(f.Next(x.i, x.v)), all(x.want, x.e))
	}
	long := list(t, strings.Repeat("1", 200)+"0"+strings.Repeat("1", 56))
	expect(t, "Next", all(long.Next(0, false)), all(200, 0))
	expect(t, "Next", all(long.Next(201, false)), all(0, api.ErrNone))
}

func TestP4_5Errors(t *testing.T) {
	f := list(t, "01101")
	for _, x := range []struct{ got, want api.Errno }{
		{f.Insert(-1, 1, true), api.ErrRange}, {f.Insert(6, 0, true), api.ErrRange}, {f.Insert(0, -1, true), api.ErrRange},
		{f.Insert(0, api.MaxList-4, true), api.ErrLimit}, {f.Insert(0, math.MaxInt, true), api.ErrLimit},
		{f.Insert(math.MaxInt, math.MaxInt, true), api.ErrRange},
		{f.Remove(-1, 1), api.ErrRange}, {f.Remove(0, -1), api.ErrRange}, {f.Remove(3, 3), api.ErrRange},
		{f.Remove(1, math.MaxInt), api.ErrRange}, {f.Remove(6, 0), api.ErrRange},
		{f.Move(3, 3, 0), api.ErrRange}, {f.Move(0, 2, 4), api.ErrRange}, {f.Move(0, 2, -1), api.ErrRange}, {f.Move(-1, 2, 0), api.ErrRange},
	} {
		expect(t, "refused", all(x.got, text(f)), all(x.want, "01101"))
	}
	expect(t, "Insert", all(f.Insert(1, 2, true), text(f)), all(0, "0111101"))
	expect(t, "Remove", all(f.Remove(0, 4), text(f)), all(0, "101"))
	g := list(t, "01101")
	expect(t, "Move", all(g.Move(1, 2, 3), text(g)), all(0, "00111"))
	expect(t, "Insert to the limit", all(g.Insert(5, api.MaxList-5, true), g.Len(), g.Count()), all(0, api.MaxList, api.MaxList-2))
	expect(t, "Insert nothing", all(g.Insert(api.MaxList, 0, true), g.Len()), all(0, api.MaxList))
	expect(t, "Remove all", all(g.Remove(0, api.MaxList), g.Len(), g.Count()), all(0, 0, 0))
}

// TestP4_5AgainstTexts compares with what is done to texts, across words.
func TestP4_5AgainstTexts(t *testing.T) {
	seed := uint32(5)
	next := func(n int) int {
		seed = seed*1664525 + 1013904223
		return int(seed>>8) % n
	}
	f, want := list(t, ""), ""
	for range 1500 {
		at := next(len(want) + 1)
		n := next(len(want) - at + 1)
		switch next(4) {
		case 0:
			n, v := next(150), next(2)
			if len(want)+n > 700 {
				continue
			}
			expect(t, "Insert", f.Insert(at, n, v == 1), api.OK)
			want = want[:at] + strings.Repeat(string(rune('0'+v)), n) + want[at:]
		case 1:
			n = min(n, 100)
			expect(t, "Remove", f.Remove(at, n), api.OK)
			want = want[:at] + want[at+n:]
		case 2:
			to := next(len(want) - n + 1)
			expect(t, "Move", f.Move(at, n, to), api.OK)
			rest := want[:at] + want[at+n:]
			want = rest[:to] + want[at:at+n] + rest[to:]
		default:
			if at < len(want) {
				f.Set(at, want[at] == '0')
				want = want[:at] + string('0'+'1'-want[at]) + want[at+1:]
			}
		}
		if text(f) != want {
			t.Fatalf("%s, expected %s", text(f), want)
		}
		consequences(t, f, want)
	}
}

// consequences checks P4.7 for a list.
func consequences(t *testing.T, f *flags.Flags, want string) {
	t.Helper()
	count := strings.Count(want, "1")
	rank, _ := f.Rank(f.Len())
	if f.Count() != count || rank != count {
		t.Fatalf("Count %d, Rank(Len) %d, expected %d", f.Count(), rank, count)
	}
	for k := range count {
		i, e := f.Select(k)
		if rank, _ := f.Rank(i); e != api.OK || rank != k || want[i] != '1' {
			t.Fatalf("Select(%d) %d, its Rank %d", k, i, rank)
		}
	}
	if i, e := f.Select(count); e != api.ErrNone || i != 0 {
		t.Fatalf("Select(%d) %d, error %d", count, i, e)
	}
	for i := 0; i < len(want); i += 37 {
		for _, v := range []bool{false, true} {
			got, e := f.Next(i, v)
			k := strings.IndexByte(want[i:], map[bool]byte{false: '0', true: '1'}[v])
			if (k < 0) != (e == api.ErrNone) || k >= 0 && got != i+k {
				t.Fatalf("Next(%d, %v) of %s: %d", i, v, want, got)
			}
		}
	}
}

func TestP4_6Spans(t *testing.T) {
	for _, x := range []struct {
		bits string
		want []spans.Span
	}{{"", nil}, {"000", nil}, {"01101", []spans.Span{{From: 1, To: 3}, {From: 4, To: 5}}}, {"00111", []spans.Span{{From: 2, To: 5}}}} {
		expect(t, "Spans", list(t, x.bits).Spans(), x.want)
	}
	comb := list(t, strings.Repeat("10", api.MaxList/2))
	if l := comb.Spans(); len(l) != api.MaxList/2 || spans.Check(l) != api.OK {
		t.Error(len(l))
	}
}

func TestP4_7SpansFollow(t *testing.T) {
	for _, bits := range []string{"01101", strings.Repeat("1101", 40), ""} {
		for at := 0; at <= len(bits); at += 3 {
			for n := 0; n <= len(bits)-at; n += 5 {
				f := list(t, bits)
				more, _ := spans.Insert(f.Spans(), at, n)
				less, _ := spans.Remove(f.Spans(), at, n)
				g := f.Copy()
				f.Insert(at, n, false)
				g.Remove(at, n)
				if !slices.Equal(f.Spans(), more) || !slices.Equal(g.Spans(), less) {
					t.Errorf("%s, %d, %d: %v and %v", bits, at, n, f.Spans(), g.Spans())
				}
			}
		}
	}
}

func TestNilAndZero(t *testing.T) {
	var f *flags.Flags
	expect(t, "nil", all(f.Len(), f.Count(), len(f.Spans()), f.Copy() == nil, f.Set(0, true), f.Insert(0, 0, true), f.Remove(0, 0), f.Move(0, 0, 0)),
		all(0, 0, 0, true, api.ErrNil, api.ErrNil, api.ErrNil, api.ErrNil))
	expect(t, "Get", all(f.Get(0)), all(false, api.ErrNil))
	expect(t, "Rank", all(f.Rank(0)), all(0, api.ErrNil))
	expect(t, "Select", all(f.Select(-1)), all(0, api.ErrNil))
	expect(t, "Next", all(f.Next(-1, true)), all(0, api.ErrNil))
	var zero flags.Flags
	expect(t, "zero", all(zero.Len(), zero.Insert(0, 2, true), text(&zero)), all(0, 0, "11"))
}
