package sizes_test

import (
	"fmt"
	"math"
	"slices"
	"testing"

	"paternoster/api"
	"paternoster/sizes"
)

// expect fails unless two values are written alike.
func expect(t *testing.T, what string, got, want any) {
	t.Helper()
	if g, w := fmt.Sprint(got), fmt.Sprint(want); g != w {
		t.Errorf("%s: %s, expected %s", what, g, w)
	}
}

func all(l ...any) []any { return l }

// row is a row as tests know it.
type row struct {
	size  int64
	known bool
}

// rows returns the rows of an index.
func rows(x sizes.Index) []row {
	var l []row
	for i := range x.Len() {
		size, _ := x.Size(i)
		known, _ := x.Known(i)
		l = append(l, row{size, known})
	}
	return l
}

// index returns the index with some rows.
func index(t *testing.T, l ...row) sizes.Index {
	t.Helper()
	x := sizes.New()
	for i, r := range l {
		var e api.Errno
		if x, e = x.Insert(i, []int64{r.size}, r.known); e != api.OK {
			t.Fatal(e)
		}
	}
	return x
}

// is fails unless a result is an index with these rows.
func is(t *testing.T, what string, x sizes.Index, e api.Errno, want ...row) {
	t.Helper()
	total := int64(0)
	for i, r := range want {
		expect(t, what+": Top", all(x.Top(i)), all(total, api.OK))
		total += r.size
	}
	expect(t, what, all(rows(x), e, x.Len(), x.Total()), all(want, api.OK, len(want), total))
	expect(t, what+": Top", all(x.Top(len(want))), all(total, api.OK))
}

// refused fails unless a result is an error, and an index without rows.
func refused(t *testing.T, what string, x sizes.Index, e, want api.Errno) {
	t.Helper()
	expect(t, what, all(x.Len(), x.Total(), rows(x), e), all(0, 0, []row{}, want))
}

// three returns the index of the chapter's examples.
func three(t *testing.T) sizes.Index {
	return index(t, row{3, true}, row{4, false}, row{5, false})
}

func TestP6_1NewLenTotal(t *testing.T) {
	is(t, "New", sizes.New(), api.OK)
	is(t, "the zero Index", sizes.Index{}, api.OK)
	is(t, "three rows", three(t), api.OK, row{3, true}, row{4, false}, row{5, false})
}

func TestP6_2TopSizeKnown(t *testing.T) {
	x := three(t)
	expect(t, "Top", all(x.Top(2)), all(7, 0))
	for _, i := range []int{-1, 4, math.MinInt, math.MaxInt} {
		expect(t, "Top", all(x.Top(i)), all(0, api.ErrRange))
		expect(t, "Size", all(x.Size(i)), all(0, api.ErrRange))
		expect(t, "Known", all(x.Known(i)), all(false, api.ErrRange))
	}
	expect(t, "Size", all(x.Size(3)), all(0, api.ErrRange))
	expect(t, "Known", all(x.Known(3)), all(false, api.ErrRange))
}

func TestP6_3At(t *testing.T) {
	x := three(t)
	for offset, want := range [][2]int{{0, 0}, {0, 1}, {0, 2}, {1, 0}, {1, 1}, {1, 2}, {1, 3}, {2, 0}, {2, 1}, {2, 2}, {2, 3}, {2, 4}} {
		expect(t, "At", all(x.At(int64(offset))), all(want[0], want[1], 0))
	}
	for _, offset := range []int64{-1, 12, math.MinInt64, math.MaxInt64} {
		expect(t, "At", all(x.At(offset)), all(0, 0, api.ErrRange))
	}
	expect(t, "At of no rows", all(sizes.New().At(0)), all(0, 0, api.ErrRange))
}

func TestP6_4Unknown(t *testing.T) {
	x := index(t, row{1, true}, row{1, true}, row{1, false}, row{1, true}, row{1, false})
	for _, y := range []struct {
		from, to, want int
		e              api.Errno
	}{
		{0, 5, 2, 0}, {0, 2, 0, api.ErrNone}, {0, 3, 2, 0}, {2, 3, 2, 0}, {3, 4, 0, api.ErrNone}, {3, 5, 4, 0},
		{0, 0, 0, api.ErrNone}, {5, 5, 0, api.ErrNone}, {2, 2, 0, api.ErrNone},
		{2, 1, 0, api.ErrRange}, {-1, 2, 0, api.ErrRange}, {0, 6, 0, api.ErrRange}, {math.MinInt, math.MaxInt, 0, api.ErrRange},
	} {
		expect(t, fmt.Sprint("Unknown ", y.from, y.to), all(x.Unknown(y.from, y.to)), all(y.want, y.e))
	}
}

func TestP6_5Set(t *testing.T) {
	x := three(t)
	y, e := x.Set(1, 9, true)
	is(t, "Set", y, e, row{3, true}, row{9, true}, row{5, false})
	y, e = y.Set(0, 1, false)
	is(t, "Set", y, e, row{1, false}, row{9, true}, row{5, false})
	for _, z := range []struct {
		i    int
		size int64
		e    api.Errno
	}{
		{-1, 0, api.ErrRange}, {3, 0, api.ErrRange}, {0, 0, api.ErrHeight}, {0, -1, api.ErrHeight},
		{0, api.MaxHeight + 1, api.ErrHeight}, {math.MaxInt, math.MaxInt64, api.ErrRange},
	} {
		y, e := x.Set(z.i, z.size, true)
		refused(t, "Set", y, e, z.e)
	}
	big := index(t, row{api.MaxHeight, false}, row{api.MaxHeight - 1, false}, row{1, false})
	y, e = big.Set(2, 2, true)
	refused(t, "Set", y, e, api.ErrOverflow)
	is(t, "what was there", x, api.OK, row{3, true}, row{4, false}, row{5, false})
}

func TestP6_6Insert(t *testing.T) {
	x := three(t)
	y, e := x.Insert(1, []int64{7, 8}, true)
	is(t, "Insert", y, e, row{3, true}, row{7, true}, row{8, true}, row{4, false}, row{5, false})
	y, e = x.Insert(0, []int64{7}, false)
	is(t, "Insert", y, e, row{7, false}, row{3, true}, row{4, false}, row{5, false})
	y, e = x.Insert(3, nil, true)
	is(t, "Insert", y, e, row{3, true}, row{4, false}, row{5, false})
	const h = api.MaxHeight
	many := slices.Repeat([]int64{1}, api.MaxItems)
	for _, z := range []struct {
		at   int
		more []int64
		e    api.Errno
	}{
		{-1, many, api.ErrRange}, {4, nil, api.ErrRange}, {0, many, api.ErrLimit}, {0, many[:api.MaxItems-2], api.ErrLimit},
		{0, append([]int64{0}, many...), api.ErrLimit},
		{0, []int64{0}, api.ErrHeight}, {0, []int64{h + 1}, api.ErrHeight}, {0, []int64{h, h, 0}, api.ErrHeight},
		{0, []int64{h, h, 1, 0}, api.ErrOverflow}, {0, []int64{h, h}, api.ErrOverflow}, {0, []int64{h, h - 11}, api.ErrOverflow},
	} {
		y, e := x.Insert(z.at, z.more, false)
		refused(t, fmt.Sprint("Insert ", z.at, len(z.more)), y, e, z.e)
	}
	y, e = x.Insert(0, many[:api.MaxItems-3], false)
	expect(t, "Insert to the limit", all(y.Len(), e), all(api.MaxItems, 0))
	y, e = x.Insert(0, []int64{h, h - 12}, false)
	expect(t, "Insert to the greatest total", all(y.Total(), e), all(api.MaxTotal, 0))
}

func TestP6_7RemoveMove(t *testing.T) {
	x := three(t)
	y, e := x.Move(0, 1, 2)
	is(t, "Move", y, e, row{4, false}, row{5, false}, row{3, true})
	y, e = x.Remove(0, 2)
	is(t, "Remove", y, e, row{5, false})
	for _, z := range [][2]int{{-1, 0}, {0, -1}, {4, 0}, {2, 2}, {1, math.MaxInt}} {
		y, e := x.Remove(z[0], z[1])
		refused(t, "Remove", y, e, api.ErrRange)
		y, e = x.Move(z[0], z[1], 0)
		refused(t, "Move", y, e, api.ErrRange)
	}
	for _, to := range []int{-1, 3, math.MaxInt} {
		y, e := x.Move(0, 1, to)
		refused(t, "Move", y, e, api.ErrRange)
	}
	y, e = x.Move(1, 0, 3)
	is(t, "Move nothing", y, e, row{3, true}, row{4, false}, row{5, false})
}

// TestP6_8Consequences keeps all indices, and compares them with lists.
func TestP6_8Consequences(t *testing.T) {
	seed := uint32(13)
	next := func(n int) int {
		seed = seed*1664525 + 1013904223
		return int(seed>>8) % n
	}
	old, lists := []sizes.Index{{}}, [][]row{nil}
	for range 800 {
		k := next(len(old))
		x, l := old[k], slices.Clone(lists[k])
		at := next(len(l) + 1)
		n := next(len(l) - at + 1)
		known := next(2) == 1
		var e api.Errno
		switch next(5) {
		case 0, 1:
			var more []int64
			var add []row
			for range next(6) {
				more = append(more, int64(1+next(5)))
				add = append(add, row{more[len(more)-1], known})
			}
			x, e = x.Insert(at, more, known)
			l = slices.Insert(l, at, add...)
		case 2:
			n = min(n, 5)
			x, e = x.Remove(at, n)
			l = slices.Delete(l, at, at+n)
		case 3:
			to := next(len(l) - n + 1)
			x, e = x.Move(at, n, to)
			moved := slices.Clone(l[at : at+n])
			l = slices.Insert(slices.Delete(l, at, at+n), to, moved...)
		default:
			if at == len(l) {
				continue
			}
			l[at] = row{int64(1 + next(5)), known}
			x, e = x.Set(at, l[at].size, known)
		}
		is(t, "after a change", x, e, l...)
		offset := int64(0)
		for i, r := range l {
			for rest := range r.size {
				expect(t, "At", all(x.At(offset+rest)), all(i, rest, 0))
			}
			offset += r.size
		}
		if want := slices.IndexFunc(l, func(r row) bool { return !r.known }); want >= 0 {
			expect(t, "Unknown", all(x.Unknown(0, len(l))), all(want, 0))
		}
		old, lists = append(old, x), append(lists, l)
	}
	for i := range old {
		if !slices.Equal(rows(old[i]), lists[i]) {
			t.Fatalf("the index %d has changed", i)
		}
	}
}
