package arenas

import (
	"math"
	"testing"

	"paternoster/api"
)

// TestP15_2LastGeneration is inside the package: nobody frees a slot 2^32 times.
func TestP15_2LastGeneration(t *testing.T) {
	a := New[string]()
	h, _ := a.Take("x")
	a.slots[0].gen = math.MaxUint32 - 1
	h.Gen = math.MaxUint32 - 1
	if _, e := a.Free(h); e != api.OK {
		t.Fatal(e)
	}
	last := api.Handle{Gen: math.MaxUint32}
	if l := a.Waiting(); len(l) != 1 || l[0] != last {
		t.Error(l)
	}
	if e := a.Unfree(last, "y"); e != api.ErrState {
		t.Error("a slot that waits with the last generation was not freed with it", e)
	}
	if g, _ := a.Take("y"); g != last {
		t.Error(g)
	}
	if x, e := a.Free(last); x != "y" || e != api.OK || len(a.Waiting()) != 0 || a.Live() != 0 || a.Slots() != 1 || a.Valid(last) {
		t.Error(x, e)
	}
	if g, _ := a.Take("z"); g != (api.Handle{Index: 1, Gen: 1}) {
		t.Error(g)
	}
	if e := a.Unfree(h, "x"); e != api.ErrState {
		t.Error(e)
	}
	if e := a.Unfree(last, "y"); e != api.OK || !a.Valid(last) || a.Live() != 2 {
		t.Error(e)
	}
	if e := a.Untake(last); e != api.OK || len(a.Waiting()) != 1 {
		t.Error(e)
	}
}
