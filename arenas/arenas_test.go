package arenas_test

import (
	"fmt"
	"math"
	"testing"

	"paternoster/api"
	"paternoster/arenas"
)

// expect fails unless two values are written alike.
func expect(t *testing.T, what string, got, want any) {
	t.Helper()
	if g, w := fmt.Sprint(got), fmt.Sprint(want); g != w {
		t.Errorf("%s: %s, expected %s", what, g, w)
	}
}

func all(l ...any) []any { return l }

func h(index, gen uint32) api.Handle { return api.Handle{Index: index, Gen: gen} }

// state writes down what the methods of an arena return.
func state(a *arenas.Arena[string]) string {
	s := fmt.Sprint(a.Live(), a.Slots(), a.Handles(), a.Waiting())
	for _, x := range a.Handles() {
		v, e := a.At(x)
		s += fmt.Sprintf(" %s %d", v, e)
	}
	return s
}

func TestP15_1NewTake(t *testing.T) {
	a := arenas.New[string]()
	expect(t, "New", state(a), "0 0 [] []")
	expect(t, "Take", all(a.Take("x")), all(h(0, 1), 0))
	expect(t, "Take", all(a.Take("y")), all(h(1, 1), 0))
	a.Free(h(0, 1))
	expect(t, "Take", all(a.Take("z")), all(h(0, 2), 0))
	var zero arenas.Arena[int]
	expect(t, "Take", all(zero.Take(7)), all(h(0, 1), 0))
	big := arenas.New[struct{}]()
	for range arenas.MaxSlots {
		if _, e := big.Take(struct{}{}); e != api.OK {
			t.Fatal(e)
		}
	}
	expect(t, "MaxSlots", arenas.MaxSlots, 1048576)
	expect(t, "Take beyond the limit", all(big.Take(struct{}{})), all(h(0, 0), api.ErrLimit))
	big.Free(h(7, 1))
	expect(t, "Take of a free slot", all(big.Take(struct{}{})), all(h(7, 2), 0))
}

func TestP15_2FreeAtSet(t *testing.T) {
	a := arenas.New[string]()
	a.Take("x")
	a.Take("y")
	expect(t, "Set", a.Set(h(1, 1), "Y"), api.OK)
	expect(t, "At", all(a.At(h(1, 1))), all("Y", 0))
	expect(t, "Free", all(a.Free(h(0, 1))), all("x", 0))
	for _, bad := range []api.Handle{{}, h(0, 1), h(0, 2), h(1, 0), h(1, 2), h(2, 1), h(math.MaxUint32, math.MaxUint32), h(math.MaxUint32, 1)} {
		expect(t, "At", all(a.At(bad)), all("", api.ErrNone))
		expect(t, "Set", a.Set(bad, "q"), api.ErrNone)
		expect(t, "Free", all(a.Free(bad)), all("", api.ErrNone))
		expect(t, "Untake", a.Untake(bad), api.ErrNone)
	}
	expect(t, "what is there", state(a), "1 2 [{1 1}] [{0 2}] Y 0")
}

func TestP15_3UntakeUnfree(t *testing.T) {
	a := arenas.New[string]()
	a.Take("x")
	a.Take("y")
	expect(t, "Untake", all(a.Untake(h(0, 1)), state(a)), all(api.ErrState, "2 2 [{0 1} {1 1}] [] x 0 y 0"))
	a.Free(h(0, 1))
	a.Take("z")
	expect(t, "Untake", all(a.Untake(h(0, 2)), a.Waiting()), all(0, "[{0 2}]"))
	expect(t, "Untake", all(a.Untake(h(1, 1)), a.Slots()), all(0, 1))
	expect(t, "Take", all(a.Take("z")), all(h(0, 2), 0))
	expect(t, "Take", all(a.Take("y")), all(h(1, 1), 0))
	a.Free(h(0, 2))
	a.Free(h(1, 1))
	for _, bad := range []api.Handle{{}, h(0, 2), h(1, 2), h(1, 0), h(1, 3), h(2, 1), h(1, math.MaxUint32), h(math.MaxUint32, 1)} {
		expect(t, "Unfree", all(a.Unfree(bad, "q"), state(a)), all(api.ErrState, "0 2 [] [{1 2} {0 3}]"))
	}
	expect(t, "Unfree", all(a.Unfree(h(1, 1), "Y"), a.Unfree(h(1, 1), "q"), state(a)), all(0, api.ErrState, "1 2 [{1 1}] [{0 3}] Y 0"))
	expect(t, "Unfree", all(a.Unfree(h(0, 2), "Z"), state(a)), all(0, "2 2 [{0 2} {1 1}] [] Z 0 Y 0"))
}

func TestP15_4Lists(t *testing.T) {
	a := arenas.New[string]()
	for _, x := range []string{"a", "b", "c", "d"} {
		a.Take(x)
	}
	a.Free(h(2, 1))
	a.Free(h(0, 1))
	expect(t, "lists", state(a), "2 4 [{1 1} {3 1}] [{0 2} {2 2}] b 0 d 0")
	expect(t, "Valid", all(a.Valid(h(1, 1)), a.Valid(h(0, 1)), a.Valid(h(0, 2)), a.Valid(h(4, 1)), a.Valid(h(1, 0))), all(true, false, false, false, false))
	l, w := a.Handles(), a.Waiting()
	if cap(l) != len(l) || cap(w) != len(w) {
		t.Error("spare capacity")
	}
	l[0], w[0] = h(9, 9), h(9, 9)
	expect(t, "lists", state(a), "2 4 [{1 1} {3 1}] [{0 2} {2 2}] b 0 d 0")
}

func TestP15_5Copy(t *testing.T) {
	a := arenas.New[string]()
	a.Take("a")
	a.Take("b")
	a.Free(h(0, 1))
	c := a.Copy()
	expect(t, "Copy", state(c), state(a))
	c.Take("c")
	c.Take("d")
	a.Set(h(1, 1), "B")
	expect(t, "Copy", all(state(a), state(c)), all("1 2 [{1 1}] [{0 2}] B 0", "3 3 [{0 2} {1 1} {2 1}] [] c 0 b 0 d 0"))
}

// TestP15_6Consequences undoes calls in the reverse order.
func TestP15_6Consequences(t *testing.T) {
	seed := uint32(19)
	next := func(n int) int {
		seed = seed*1664525 + 1013904223
		return int(seed>>8) % n
	}
	a := arenas.New[string]()
	var states []string
	var undo []func() api.Errno
	freed := map[api.Handle]bool{}
	for step := range 1500 {
		states = append(states, state(a))
		l := a.Handles()
		if len(l) == 0 || next(5) < 2 {
			x, e := a.Take(fmt.Sprint(step))
			if e != api.OK || freed[x] {
				t.Fatal("a handle that was freed is valid again")
			}
			undo = append(undo, func() api.Errno { return a.Untake(x) })
			continue
		}
		x := l[next(len(l))]
		old, _ := a.At(x)
		if next(3) == 0 {
			a.Set(x, "new")
			undo = append(undo, func() api.Errno { return a.Set(x, old) })
			continue
		}
		a.Free(x)
		freed[x] = true
		undo = append(undo, func() api.Errno { return a.Unfree(x, old) })
		if a.Live()+len(a.Waiting()) > a.Slots() {
			t.Fatal("too many slots")
		}
	}
	for i := len(undo) - 1; i >= 0; i-- {
		if e := undo[i](); e != api.OK || state(a) != states[i] {
			t.Fatal(i, e, state(a), states[i])
		}
	}
}

func TestNil(t *testing.T) {
	var a *arenas.Arena[string]
	expect(t, "nil", all(a.Set(h(0, 1), ""), a.Untake(h(0, 1)), a.Unfree(h(0, 1), ""), a.Valid(h(0, 1)), a.Live(), a.Slots(), len(a.Handles()), len(a.Waiting()), a.Copy() == nil),
		all(api.ErrNil, api.ErrNil, api.ErrNil, false, 0, 0, 0, 0, true))
	expect(t, "Take", all(a.Take("")), all(h(0, 0), api.ErrNil))
	expect(t, "Free", all(a.Free(h(0, 1))), all("", api.ErrNil))
	expect(t, "At", all(a.At(h(0, 1))), all("", api.ErrNil))
}
