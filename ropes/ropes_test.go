package ropes_test

import (
	"fmt"
	"math"
	"slices"
	"testing"

	"paternoster/api"
	"paternoster/fenwicks"
	"paternoster/ropes"
)

// expect fails unless two values are written alike.
func expect(t *testing.T, what string, got, want any) {
	t.Helper()
	if g, w := fmt.Sprint(got), fmt.Sprint(want); g != w {
		t.Errorf("%s: %s, expected %s", what, g, w)
	}
}

func all(l ...any) []any { return l }

// rope returns a rope that has to be possible.
func rope(t *testing.T, sizes ...int64) ropes.Rope {
	t.Helper()
	r, e := ropes.Of(sizes)
	if e != api.OK {
		t.Fatalf("Of: error %d", e)
	}
	return r
}

// is fails unless a result is a rope with these sizes, and a good depth.
func is(t *testing.T, what string, r ropes.Rope, e api.Errno, want ...int64) {
	t.Helper()
	expect(t, what, all(r.List(), e, r.Len()), all(want, api.OK, len(want)))
	if r.Len() < least(r.Depth()) {
		t.Errorf("%s: the depth is %d for %d sizes", what, r.Depth(), r.Len())
	}
}

// refused fails unless a result is an error, and a rope without sizes.
func refused(t *testing.T, what string, r ropes.Rope, e, want api.Errno) {
	t.Helper()
	expect(t, what, all(r.Len(), r.Total(), r.Depth(), e), all(0, 0, 0, want))
}

// least returns F(d).
func least(d int) int {
	if d < 2 {
		return d
	}
	return least(d-1) + least(d-2) + 1
}

func TestP5_1OfLenTotalList(t *testing.T) {
	const h = api.MaxHeight
	for _, sizes := range [][]int64{nil, {0}, {3, 0, 5, 2}, {h, h}, make([]int64, api.MaxList)} {
		r, e := ropes.Of(sizes)
		is(t, "Of", r, e, sizes...)
		x, _ := fenwicks.New(sizes)
		expect(t, "Total", r.Total(), x.Total())
		if l := r.List(); len(l) > 0 {
			if cap(l) != len(l) {
				t.Error("spare capacity")
			}
			l[0] = 77
			sizes[0]++
			expect(t, "what Of got and List returned is not shared", r.List()[0], sizes[0]-1)
		}
	}
	for _, sizes := range [][]int64{{-1}, {h + 1}, {h, h, 1}, {h, h, -1}, make([]int64, api.MaxList+1)} {
		r, e := ropes.Of(sizes)
		refused(t, "Of", r, e, fenwicks.Check(sizes))
	}
}

func TestP5_2AtSumFind(t *testing.T) {
	for _, sizes := range [][]int64{nil, {0}, {3, 0, 5, 2}, {0, 0, 1, 0, 4, 0}, {api.MaxHeight, api.MaxHeight}} {
		r := rope(t, sizes...)
		x, _ := fenwicks.New(sizes)
		for _, i := range []int{-1, 0, 1, 2, 3, 4, 5, 6, 7, math.MinInt, math.MaxInt} {
			expect(t, "At", all(r.At(i)), all(x.At(i)))
			expect(t, "Sum", all(r.Sum(i)), all(x.Sum(i)))
			expect(t, "Find", all(r.Find(int64(i))), all(x.Find(int64(i))))
			expect(t, "Find", all(r.Find(api.MaxTotal+int64(i%9))), all(x.Find(api.MaxTotal+int64(i%9))))
		}
	}
}

func TestP5_3SplitJoin(t *testing.T) {
	r := rope(t, 3, 0, 5, 2)
	for at := range 5 {
		a, b, e := r.Split(at)
		l := r.List()
		is(t, "Split", a, e, l[:at]...)
		is(t, "Split", b, e, l[at:]...)
		j, e := ropes.Join(a, b)
		is(t, "Join", j, e, l...)
		j, e = ropes.Join(b, a)
		is(t, "Join", j, e, append(slices.Clone(l[at:]), l[:at]...)...)
	}
	for _, at := range []int{-1, 5, math.MinInt, math.MaxInt} {
		a, b, e := r.Split(at)
		refused(t, "Split", a, e, api.ErrRange)
		refused(t, "Split", b, e, api.ErrRange)
	}
	long, big := rope(t, make([]int64, api.MaxList)...), rope(t, api.MaxHeight, api.MaxHeight)
	j, e := ropes.Join(long, rope(t, 1))
	refused(t, "Join", j, e, api.ErrLimit)
	j, e = ropes.Join(big, rope(t, 1))
	refused(t, "Join", j, e, api.ErrOverflow)
	j, e = ropes.Join(big, big)
	refused(t, "Join", j, e, api.ErrOverflow)
	j, e = ropes.Join(long, ropes.Rope{})
	is(t, "Join", j, e, long.List()...)
	full, _ := ropes.Join(big, rope(t, make([]int64, api.MaxList-2)...))
	j, e = ropes.Join(full, big)
	refused(t, "Join names ErrLimit first", j, e, api.ErrLimit)
}

func TestP5_4Set(t *testing.T) {
	r := rope(t, 3, 0, 5, 2)
	for i := range 4 {
		want := r.List()
		want[i] = 9
		x, e := r.Set(i, 9)
		is(t, "Set", x, e, want...)
	}
	for _, x := range []struct {
		i    int
		size int64
		e    api.Errno
	}{{-1, -1, api.ErrRange}, {4, 1, api.ErrRange}, {0, -1, api.ErrHeight}, {0, api.MaxHeight + 1, api.ErrHeight}} {
		got, e := r.Set(x.i, x.size)
		refused(t, "Set", got, e, x.e)
	}
	least, e := r.Set(0, 0)
	is(t, "Set to the least size", least, e, 0, 0, 5, 2)
	most, e := r.Set(0, api.MaxHeight)
	is(t, "Set to the greatest size", most, e, api.MaxHeight, 0, 5, 2)
	big := rope(t, api.MaxHeight, api.MaxHeight-1, 1)
	got, e := big.Set(2, 2)
	refused(t, "Set", got, e, api.ErrOverflow)
	got, e = big.Set(2, 1)
	is(t, "Set", got, e, big.List()...)
}

func TestP5_5Insert(t *testing.T) {
	r := rope(t, 3, 0, 5, 2)
	x, e := r.Insert(1, []int64{7})
	is(t, "Insert", x, e, 3, 7, 0, 5, 2)
	x, e = r.Insert(4, []int64{7, 8})
	is(t, "Insert", x, e, 3, 0, 5, 2, 7, 8)
	x, e = r.Insert(0, nil)
	is(t, "Insert", x, e, 3, 0, 5, 2)
	const h = api.MaxHeight
	for _, y := range []struct {
		at    int
		sizes []int64
		e     api.Errno
	}{
		{-1, []int64{-1}, api.ErrRange}, {5, nil, api.ErrRange}, {0, []int64{-1}, api.ErrHeight},
		{0, make([]int64, api.MaxList+1), api.ErrLimit}, {0, make([]int64, api.MaxList-3), api.ErrLimit},
		{0, []int64{h, h, 1}, api.ErrOverflow}, {0, []int64{h, h}, api.ErrOverflow}, {2, []int64{h, h - 9}, api.ErrOverflow},
	} {
		x, e := r.Insert(y.at, y.sizes)
		refused(t, "Insert", x, e, y.e)
	}
	x, e = r.Insert(2, []int64{h, h - 10})
	is(t, "Insert", x, e, 3, 0, h, h-10, 5, 2)
	is(t, "what was there", r, api.OK, 3, 0, 5, 2)
}

func TestP5_6RemoveMove(t *testing.T) {
	r := rope(t, 3, 0, 5, 2)
	x, e := r.Remove(1, 2)
	is(t, "Remove", x, e, 3, 2)
	x, e = r.Move(0, 2, 2)
	is(t, "Move", x, e, 5, 2, 3, 0)
	for _, y := range [][2]int{{-1, 0}, {0, -1}, {5, 0}, {3, 2}, {1, math.MaxInt}, {math.MaxInt, math.MaxInt}} {
		x, e := r.Remove(y[0], y[1])
		refused(t, "Remove", x, e, api.ErrRange)
		x, e = r.Move(y[0], y[1], 0)
		refused(t, "Move", x, e, api.ErrRange)
	}
	for _, to := range []int{-1, 3, math.MaxInt} {
		x, e := r.Move(0, 2, to)
		refused(t, "Move", x, e, api.ErrRange)
	}
	for at := range 5 {
		for n := range 5 - at {
			for to := range 5 - n {
				l := r.List()
				rest := append(slices.Clone(l[:at]), l[at+n:]...)
				x, e := r.Move(at, n, to)
				is(t, "Move", x, e, slices.Insert(rest, to, l[at:at+n]...)...)
			}
		}
	}
}

func TestP5_7Depth(t *testing.T) {
	expect(t, "Depth", all(ropes.Rope{}.Depth(), rope(t, 1).Depth(), rope(t, 3, 0, 5, 2).Depth()), all(0, 1, 3))
	r := ropes.Rope{}
	for i := range api.MaxList { // one by one at the end is the worst order for a tree that is not rebalanced
		var e api.Errno
		if r, e = r.Insert(i, []int64{int64(i)}); e != api.OK || r.Len() < least(r.Depth()) {
			t.Fatal(i, e, r.Depth())
		}
	}
	if r.Depth() > 16 {
		t.Error(r.Depth())
	}
	for r.Len() > 0 {
		r, _ = r.Remove(r.Len()/3, min(7, r.Len()-r.Len()/3))
		if r.Len() < least(r.Depth()) {
			t.Fatal(r.Len(), r.Depth())
		}
	}
}

// TestP5_8Consequences keeps ropes that were there before, and compares them with lists.
func TestP5_8Consequences(t *testing.T) {
	seed := uint32(11)
	next := func(n int) int {
		seed = seed*1664525 + 1013904223
		return int(seed>>8) % n
	}
	old, lists := []ropes.Rope{{}}, [][]int64{nil}
	for step := range 1500 {
		k := next(len(old))
		r, l := old[k], slices.Clone(lists[k])
		at := next(len(l) + 1)
		n := next(len(l) - at + 1)
		var e api.Errno
		switch next(5) {
		case 0, 1:
			more := make([]int64, next(20))
			for i := range more {
				more[i] = int64(next(9))
			}
			r, e = r.Insert(at, more)
			l = slices.Insert(l, at, more...)
		case 2:
			r, e = r.Remove(at, n)
			l = slices.Delete(l, at, at+n)
		case 3:
			to := next(len(l) - n + 1)
			r, e = r.Move(at, n, to)
			moved := slices.Clone(l[at : at+n])
			l = slices.Insert(slices.Delete(l, at, at+n), to, moved...)
		default:
			a, b, _ := r.Split(at)
			r, e = ropes.Join(b, a)
			l = append(slices.Clone(l[at:]), l[:at]...)
			sum, _ := b.Sum(b.Len())
			for i := range a.Len() {
				behind, _ := r.Sum(b.Len() + i)
				first, _ := a.Sum(i)
				if behind != sum+first {
					t.Fatal("Sum of two ropes that are joined")
				}
			}
		}
		is(t, fmt.Sprint("step ", step), r, e, l...)
		if len(l) > 800 {
			continue
		}
		old, lists = append(old, r), append(lists, l)
	}
	for i := range old {
		if !slices.Equal(old[i].List(), lists[i]) {
			t.Fatalf("the rope %d has changed", i)
		}
	}
}
