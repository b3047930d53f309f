package gaps_test

import (
	"fmt"
	"math"
	"slices"
	"testing"

	"paternoster/api"
	"paternoster/gaps"
)

// expect fails unless two values are written alike.
func expect(t *testing.T, what string, got, want any) {
	t.Helper()
	if g, w := fmt.Sprint(got), fmt.Sprint(want); g != w {
		t.Errorf("%s: %s, expected %s", what, g, w)
	}
}

func all(l ...any) []any { return l }

// buffer returns a buffer with the letters of a text.
func buffer(t *testing.T, text string) *gaps.Buffer[byte] {
	t.Helper()
	b, e := gaps.New([]byte(text))
	if e != api.OK {
		t.Fatal(e)
	}
	return b
}

// is fails unless a buffer has these letters, and its gap there.
func is(t *testing.T, what string, b *gaps.Buffer[byte], text string, gap int) {
	t.Helper()
	expect(t, what, all(string(b.List()), b.Len(), b.Gap()), all(text, len(text), gap))
	for i := range len(text) {
		expect(t, what+": At", all(b.At(i)), all(text[i], api.OK))
	}
}

func TestP3_1NewLenList(t *testing.T) {
	is(t, "New", buffer(t, ""), "", 0)
	is(t, "New", buffer(t, "abc"), "abc", 3)
	is(t, "the zero Buffer", &gaps.Buffer[byte]{}, "", 0)
	if b, e := gaps.New(make([]int, api.MaxList)); e != api.OK || b.Len() != api.MaxList {
		t.Error(e)
	}
	if b, e := gaps.New(make([]int, api.MaxList+1)); e != api.ErrLimit || b != nil {
		t.Error(b, e)
	}
}

func TestP3_2AtAndSet(t *testing.T) {
	b := buffer(t, "abcde")
	b.Insert(2, 'x')
	for i := range 6 {
		expect(t, "Set", b.Set(i, byte('0'+i)), api.OK)
	}
	is(t, "Set", b, "012345", 3)
	for _, i := range []int{-1, 6, math.MinInt, math.MaxInt} {
		expect(t, "At", all(b.At(i)), all(0, api.ErrRange))
		expect(t, "Set", b.Set(i, 'x'), api.ErrRange)
	}
	is(t, "Set out of range", b, "012345", 3)
	var none gaps.Buffer[string]
	expect(t, "At", all(none.At(0)), all("", api.ErrRange))
}

func TestP3_3Insert(t *testing.T) {
	b := buffer(t, "abcde")
	expect(t, "Insert", b.Insert(2, 'x', 'y'), api.OK)
	is(t, "Insert", b, "abxycde", 4)
	expect(t, "Insert nothing", b.Insert(0), api.OK)
	is(t, "Insert nothing", b, "abxycde", 4)
	for _, at := range []int{-1, 8, math.MaxInt, math.MinInt} {
		expect(t, "Insert", all(b.Insert(at, 'x'), b.Insert(at)), all(api.ErrRange, api.ErrRange))
	}
	var full gaps.Buffer[byte]
	expect(t, "Insert as many as there may be", full.Insert(0, make([]byte, api.MaxList)...), api.OK)
	expect(t, "Insert one too many", all(full.Insert(api.MaxList, 1), full.Len(), full.Insert(0)), all(api.ErrLimit, api.MaxList, api.OK))
	expect(t, "Insert too many out of range", full.Insert(-1, 1), api.ErrRange)
}

func TestP3_4Remove(t *testing.T) {
	b := buffer(t, "abxycde")
	expect(t, "Remove", b.Remove(0, 3), api.OK)
	is(t, "Remove", b, "ycde", 0)
	for _, x := range [][2]int{{-1, 1}, {0, -1}, {5, 0}, {3, 2}, {0, 5}, {1, math.MaxInt}, {math.MaxInt, math.MaxInt}, {math.MinInt, 0}} {
		expect(t, "Remove", b.Remove(x[0], x[1]), api.ErrRange)
	}
	is(t, "Remove out of range", b, "ycde", 0)
	expect(t, "Remove nothing", b.Remove(4, 0), api.OK)
	is(t, "Remove nothing", b, "ycde", 0)
	expect(t, "Remove all", b.Remove(0, 4), api.OK)
	is(t, "Remove all", b, "", 0)
}

func TestP3_5Move(t *testing.T) {
	b := buffer(t, "ycde")
	expect(t, "Move", b.Move(1, 2, 0), api.OK)
	is(t, "Move", b, "cdye", 2)
	for _, x := range [][3]int{{0, 2, 3}, {0, 2, -1}, {-1, 1, 0}, {0, -1, 0}, {3, 2, 0}, {5, 0, 0}, {0, 0, 5}, {1, math.MaxInt, 0}} {
		expect(t, "Move", b.Move(x[0], x[1], x[2]), api.ErrRange)
	}
	is(t, "Move out of range", b, "cdye", 2)
	expect(t, "Move nothing", b.Move(1, 0, 4), api.OK)
	is(t, "Move nothing", b, "cdye", 2)
	expect(t, "Move to the end", b.Move(0, 1, 3), api.OK)
	is(t, "Move to the end", b, "dyec", 4)
}

func TestP3_6Gap(t *testing.T) {
	b := buffer(t, "abcdef")
	b.Remove(4, 1)
	is(t, "Remove", b, "abcdf", 4)
	b.Set(0, 'A')
	b.At(1)
	b.List()
	b.Remove(9, 1)
	b.Insert(9, 'x')
	is(t, "what does not change the gap", b, "Abcdf", 4)
	b.Insert(0, 'x', 'y')
	is(t, "Insert", b, "xyAbcdf", 2)
	b.Move(0, 3, 2)
	is(t, "Move", b, "bcxyAdf", 5)
	b.Move(2, 3, 2)
	is(t, "Move to where it is", b, "bcxyAdf", 5)
	b.Move(0, 1, 0)
	is(t, "Move to where it is", b, "bcxyAdf", 1)
}

// TestP3_7Consequences compares with what is done to plain lists.
func TestP3_7Consequences(t *testing.T) {
	seed := uint32(3)
	next := func(n int) int {
		seed = seed*1664525 + 1013904223
		return int(seed>>8) % n
	}
	b, want := buffer(t, ""), []byte(nil)
	for step := range 3000 {
		at := next(len(want) + 1)
		switch next(4) {
		case 0:
			more := []byte("abcdefghi")[:next(10)]
			expect(t, "Insert", b.Insert(at, more...), api.OK)
			want = slices.Insert(want, at, more...)
		case 1:
			n := next(len(want) - at + 1)
			expect(t, "Remove", b.Remove(at, n), api.OK)
			want = slices.Delete(want, at, at+n)
		case 2:
			n := next(len(want) - at + 1)
			to := next(len(want) - n + 1)
			before := string(b.List())
			expect(t, "Move", all(b.Move(at, n, to), b.Move(to, n, at)), all(0, 0))
			expect(t, "Move and back", string(b.List()), before)
			expect(t, "Move", b.Move(at, n, to), api.OK)
			moved := slices.Clone(want[at : at+n])
			want = slices.Insert(slices.Delete(want, at, at+n), to, moved...)
		default:
			before, gap := string(b.List()), b.Gap()
			expect(t, "refused", all(b.Insert(-1, 'x'), b.Remove(at, len(want)+1), b.Move(0, 0, -1), b.Set(-1, 'x')),
				all(api.ErrRange, api.ErrRange, api.ErrRange, api.ErrRange))
			expect(t, "what was refused", all(string(b.List()), b.Gap()), all(before, gap))
			b.Insert(at, 'x', 'y')
			b.Remove(at, 2)
			expect(t, "Insert and Remove", string(b.List()), before)
		}
		if string(b.List()) != string(want) {
			t.Fatalf("step %d: %q, expected %q", step, b.List(), want)
		}
	}
}

func TestP3_7NothingIsShared(t *testing.T) {
	l := []int{1, 2, 3}
	b, _ := gaps.New(l)
	l[0] = 9
	more := []int{4, 5}
	b.Insert(3, more...)
	more[0] = 9
	got := b.List()
	if cap(got) != len(got) {
		t.Error("spare capacity")
	}
	got[1] = 9
	expect(t, "List", b.List(), []int{1, 2, 3, 4, 5})
}

func TestNil(t *testing.T) {
	var b *gaps.Buffer[int]
	expect(t, "nil", all(b.Len(), b.Gap(), len(b.List()), b.Set(0, 0), b.Insert(0), b.Remove(0, 0), b.Move(0, 0, 0)),
		all(0, 0, 0, api.ErrNil, api.ErrNil, api.ErrNil, api.ErrNil))
	expect(t, "At", all(b.At(0)), all(0, api.ErrNil))
}
