package keymaps_test

import (
	"fmt"
	"maps"
	"math"
	"slices"
	"testing"

	"paternoster/api"
	"paternoster/keymaps"
)

// expect fails unless two values are written alike.
func expect(t *testing.T, what string, got, want any) {
	t.Helper()
	if g, w := fmt.Sprint(got), fmt.Sprint(want); g != w {
		t.Errorf("%s: %s, expected %s", what, g, w)
	}
}

func all(l ...any) []any { return l }

// is fails unless a map has these keys and numbers, and slots as it may have.
func is(t *testing.T, m *keymaps.Map, want map[uint64]int, most int) {
	t.Helper()
	if !slices.Equal(m.Keys(), slices.Sorted(maps.Keys(want))) || m.Len() != len(want) {
		t.Fatalf("keys %v, expected %v", m.Keys(), want)
	}
	for key, v := range want {
		if got, found := m.Get(key); got != v || !found {
			t.Fatalf("Get(%d): %d %v, expected %d", key, got, found, v)
		}
	}
	slots := m.Slots()
	if (m.Len()+m.Tombs())*4 > slots*3 || slots > max(8, 8*most) || slots&(slots-1) != 0 || slots > 0 && slots < 8 {
		t.Fatalf("%d slots for %d keys (at most %d) and %d tombs", slots, m.Len(), most, m.Tombs())
	}
}

func TestP7_1NewLenGetKeys(t *testing.T) {
	for _, m := range []*keymaps.Map{keymaps.New(), {}} {
		expect(t, "New", all(m.Len(), m.Slots(), m.Tombs(), len(m.Keys())), all(0, 0, 0, 0))
		expect(t, "Get", all(m.Get(1)), all(0, false))
		expect(t, "Put", all(m.Put(5, 50), m.Put(9, 90), m.Put(5, 51), m.Len(), m.Keys()), all(0, 0, 0, 2, "[5 9]"))
		expect(t, "Get", all(m.Get(5)), all(51, true))
		expect(t, "Get", all(m.Get(0)), all(0, false))
		l := m.Keys()
		if cap(l) != len(l) {
			t.Error("spare capacity")
		}
		l[0] = 1
		expect(t, "Keys", m.Keys(), "[5 9]")
	}
}

func TestP7_2Put(t *testing.T) {
	m := keymaps.New()
	expect(t, "Put of 0", all(m.Put(0, 1), m.Len(), m.Slots()), all(api.ErrKey, 0, 0))
	expect(t, "Put", all(m.Put(math.MaxUint64, math.MinInt), m.Put(1, -1)), all(0, 0))
	is(t, m, map[uint64]int{math.MaxUint64: math.MinInt, 1: -1}, 2)
	m.Clear()
	for k := range api.MaxList {
		if e := m.Put(uint64(k+1)<<32, k); e != api.OK {
			t.Fatal(e)
		}
	}
	expect(t, "Put beyond the limit", all(m.Put(3, 3), m.Put(0, 3), m.Put(1<<32, 7), m.Len()), all(api.ErrLimit, api.ErrKey, 0, api.MaxList))
	expect(t, "Get", all(m.Get(1<<32)), all(7, true))
	expect(t, "Get", all(m.Get(3)), all(0, false))
	expect(t, "Drop and Put", all(m.Drop(1<<32), m.Put(3, 3)), all(true, 0))
}

func TestP7_3DropClear(t *testing.T) {
	m := keymaps.New()
	m.Put(5, 50)
	m.Put(9, 90)
	expect(t, "Drop", all(m.Drop(5), m.Drop(5), m.Drop(0), m.Drop(77), m.Len(), m.Tombs()), all(true, false, false, false, 1, 1))
	expect(t, "Get", all(m.Get(5)), all(0, false))
	m.Clear()
	expect(t, "Clear", all(m.Len(), m.Slots(), m.Tombs(), m.Drop(9)), all(0, 0, 0, false))
	expect(t, "Get", all(m.Get(9)), all(0, false))
}

// TestP7_4Slots drops and puts in many more keys than there ever are at a time.
func TestP7_4Slots(t *testing.T) {
	for _, step := range []uint64{1, 8, 1 << 20, 1 << 32, 1<<61 + 1} {
		m, want := keymaps.New(), map[uint64]int{}
		for k := range 2000 {
			key := uint64(k+1) * step
			if key == 0 {
				continue
			}
			m.Put(key, k)
			want[key] = k
			if old := uint64(k-20) * step; want[old] > 0 || k == 21 {
				expect(t, "Drop", m.Drop(old), true)
				delete(want, old)
			}
			is(t, m, want, 23)
		}
	}
	m := keymaps.New()
	for k := range api.MaxList {
		m.Put(uint64(k+1), k)
		if m.Slots() > max(8, 8*m.Len()) || m.Len()*4 > m.Slots()*3 {
			t.Fatal(m.Slots(), m.Len())
		}
	}
}

func TestP7_5Copy(t *testing.T) {
	m := keymaps.New()
	m.Put(5, 50)
	m.Put(6, 60)
	m.Drop(6)
	c := m.Copy()
	is(t, c, map[uint64]int{5: 50}, 2)
	c.Put(5, 51)
	c.Put(7, 70)
	m.Drop(5)
	is(t, m, map[uint64]int{}, 2)
	is(t, c, map[uint64]int{5: 51, 7: 70}, 2)
	expect(t, "Get", all(c.Get(5)), all(51, true))
}

func TestP7_6Consequences(t *testing.T) {
	seed := uint64(17)
	next := func(n uint64) uint64 {
		seed = seed*6364136223846793005 + 1442695040888963407
		return seed >> 33 % n
	}
	m, want, most := keymaps.New(), map[uint64]int{}, 0
	for step := range 20000 {
		key := next(300) + 1
		if next(2) == 0 {
			key <<= 40
		}
		switch next(5) {
		case 0, 1, 2:
			expect(t, "Put", m.Put(key, step), api.OK)
			want[key] = step
		case 3:
			_, there := want[key]
			expect(t, "Drop", m.Drop(key), there)
			delete(want, key)
		default:
			if next(500) == 0 {
				m.Clear()
				clear(want)
				most = 0
			}
		}
		most = max(most, len(want))
		if step%50 == 0 {
			is(t, m, want, most)
		}
	}
	other := keymaps.New()
	for _, key := range slices.Backward(m.Keys()) {
		other.Put(key, want[key])
	}
	is(t, other, want, len(want))
}

func TestNil(t *testing.T) {
	var m *keymaps.Map
	m.Clear()
	expect(t, "nil", all(m.Len(), m.Put(0, 0), m.Drop(1), len(m.Keys()), m.Slots(), m.Tombs(), m.Copy() == nil), all(0, api.ErrNil, false, 0, 0, 0, true))
	expect(t, "Get", all(m.Get(1)), all(0, false))
}
