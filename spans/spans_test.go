package spans_test

import (
	"math"
	"slices"
	"testing"

	"paternoster/api"
	"paternoster/spans"
)

// set returns spans for numbers that are taken in pairs.
func set(ends ...int) []spans.Span {
	var l []spans.Span
	for i := 0; i < len(ends); i += 2 {
		l = append(l, spans.Span{From: ends[i], To: ends[i+1]})
	}
	return l
}

// comb returns n spans of a width, each of which begins step behind the one before.
func comb(n, first, width, step int) []spans.Span {
	var l []spans.Span
	for i := range n {
		l = append(l, spans.Span{From: first + i*step, To: first + i*step + width})
	}
	return l
}

// small is how many places the exhaustive tests look at.
const small = 7

// ofBits returns the set of the places whose bits are set.
func ofBits(bits uint) []spans.Span {
	var l []spans.Span
	for i := 0; i < 64; i++ {
		if bits>>i&1 == 0 {
			continue
		}
		from := i
		for i < 64 && bits>>i&1 == 1 {
			i++
		}
		l = append(l, spans.Span{From: from, To: i})
	}
	return l
}

// expect fails unless a result is this set: valid, and without spare capacity.
func expect(t *testing.T, what string, got []spans.Span, e api.Errno, want []spans.Span) {
	t.Helper()
	if e != api.OK || !slices.Equal(got, want) {
		t.Errorf("%s: %v (error %d), expected %v", what, got, e, want)
	}
	if f := spans.Check(got); f != api.OK {
		t.Errorf("%s: %v is not valid: error %d", what, got, f)
	}
	if cap(got) != len(got) {
		t.Errorf("%s: spare capacity: %d of %d", what, len(got), cap(got))
	}
}

// expectError fails unless a result is this error, and no set.
func expectError(t *testing.T, what string, got []spans.Span, e, want api.Errno) {
	t.Helper()
	if e != want || len(got) != 0 {
		t.Errorf("%s: %v (error %d), expected error %d", what, got, e, want)
	}
}

type operation struct {
	name string
	do   func(a, b []spans.Span) ([]spans.Span, api.Errno)
	bits func(a, b uint) uint
}

func operations() []operation {
	return []operation{
		{"Union", spans.Union, func(a, b uint) uint { return a | b }},
		{"Common", spans.Common, func(a, b uint) uint { return a & b }},
		{"Without", spans.Without, func(a, b uint) uint { return a &^ b }},
	}
}

// wrong is a set that is not valid, and its error.
type wrong struct {
	name string
	l    []spans.Span
	e    api.Errno
}

func wrongSets() []wrong {
	return []wrong{
		{"touching", set(1, 4, 4, 5), api.ErrOrder},
		{"overlapping", set(1, 4, 3, 5), api.ErrOrder},
		{"twice", set(1, 4, 1, 4), api.ErrOrder},
		{"descending", set(2, 3, 0, 1), api.ErrOrder},
		{"empty span", set(1, 1), api.ErrArg},
		{"turned round", set(4, 1), api.ErrArg},
		{"below 0", set(-1, 2), api.ErrArg},
		{"above MaxPlace", set(0, spans.MaxPlace+1), api.ErrArg},
		{"at MaxPlace", set(spans.MaxPlace, spans.MaxPlace), api.ErrArg},
		{"extreme numbers", set(math.MinInt, math.MaxInt), api.ErrArg},
		{"ErrArg is named first for one span", set(0, 3, 2, 1), api.ErrArg},
		{"ErrArg in an earlier span", set(2, 1, 0, 1), api.ErrArg},
		{"ErrOrder in an earlier span", set(1, 4, 4, 5, 9, 9), api.ErrOrder},
		{"the last one", set(1, 4, 6, 7, 7, 8), api.ErrOrder},
		{"too many", comb(api.MaxList+1, 0, 1, 2), api.ErrLimit},
		{"ErrLimit is named first", make([]spans.Span, api.MaxList+1), api.ErrLimit},
	}
}

func TestP11Check(t *testing.T) {
	for _, l := range [][]spans.Span{
		nil, {}, set(0, 1), set(0, spans.MaxPlace), set(spans.MaxPlace-1, spans.MaxPlace),
		set(0, 1, 2, 3), set(1, 4, 5, 9, 20, 21), comb(api.MaxList, 0, 1, 2),
	} {
		if e := spans.Check(l); e != api.OK {
			t.Errorf("Check(%v): error %d", l, e)
		}
	}
	for _, x := range wrongSets() {
		if e := spans.Check(x.l); e != x.e {
			t.Errorf("%s: error %d, expected %d", x.name, e, x.e)
		}
	}
}

func TestP12Of(t *testing.T) {
	for _, x := range []struct {
		places []int
		want   []spans.Span
	}{
		{nil, nil},
		{[]int{}, nil},
		{[]int{0}, set(0, 1)},
		{[]int{5, 5, 5}, set(5, 6)},
		{[]int{3, 1, 2, 7, 1}, set(1, 4, 7, 8)},
		{[]int{9, 7, 5}, set(5, 6, 7, 8, 9, 10)},
		{[]int{spans.MaxPlace - 1, 0}, set(0, 1, spans.MaxPlace-1, spans.MaxPlace)},
	} {
		got, e := spans.Of(x.places)
		expect(t, "Of", got, e, x.want)
	}
	for _, places := range [][]int{{-1}, {spans.MaxPlace}, {1, 2, math.MaxInt}, {math.MinInt, 4}} {
		got, e := spans.Of(places)
		expectError(t, "Of", got, e, api.ErrRange)
	}
}

func TestP12OfEverySmallSet(t *testing.T) {
	for bits := range uint(1) << small {
		var places []int
		for i := range 2 * small { // every place that is there, twice
			if bits>>(i%small)&1 == 1 {
				places = append(places, i%small)
			}
		}
		got, e := spans.Of(places)
		expect(t, "Of", got, e, ofBits(bits))
	}
}

func TestP12OfLimit(t *testing.T) {
	var places []int
	for i := range api.MaxList {
		places = append(places, 2*i)
	}
	got, e := spans.Of(places)
	expect(t, "Of as many as there may be", got, e, comb(api.MaxList, 0, 1, 2))
	got, e = spans.Of(append(places, 2*api.MaxList-1))
	expect(t, "Of one that touches", got, e, append(comb(api.MaxList-1, 0, 1, 2), set(2*api.MaxList-2, 2*api.MaxList)...))
	places = append(places, 2*api.MaxList)
	got, e = spans.Of(places)
	expectError(t, "Of one too many", got, e, api.ErrLimit)
	got, e = spans.Of(append(places, -1))
	expectError(t, "Of one too many and -1", got, e, api.ErrRange)
}

func TestP13HasCount(t *testing.T) {
	for bits := range uint(1) << small {
		l, n := ofBits(bits), 0
		for i := -2; i < small+2; i++ {
			in := i >= 0 && bits>>i&1 == 1
			if in {
				n++
			}
			if got := spans.Has(l, i); got != in {
				t.Errorf("Has(%v, %d): %t", l, i, got)
			}
		}
		if got := spans.Count(l); got != n {
			t.Errorf("Count(%v): %d, expected %d", l, got, n)
		}
	}
	all := set(0, spans.MaxPlace)
	if spans.Count(all) != spans.MaxPlace || !spans.Has(all, 0) || !spans.Has(all, spans.MaxPlace-1) {
		t.Error("not all places are in the set of all")
	}
	if spans.Has(all, -1) || spans.Has(all, spans.MaxPlace) || spans.Has(all, math.MaxInt) || spans.Has(all, math.MinInt) {
		t.Error("a place beyond all is in the set of all")
	}
}

func TestP13HasCountOfWrongSets(t *testing.T) {
	for _, x := range wrongSets() {
		if n := spans.Count(x.l); n != 0 {
			t.Errorf("%s: Count: %d", x.name, n)
		}
		for i := -1; i < 12; i++ {
			if spans.Has(x.l, i) {
				t.Errorf("%s: Has(%d)", x.name, i)
			}
		}
	}
}

func TestP14EveryPairOfSmallSets(t *testing.T) {
	for a := range uint(1) << small {
		for b := range uint(1) << small {
			for _, o := range operations() {
				got, e := o.do(ofBits(a), ofBits(b))
				expect(t, o.name, got, e, ofBits(o.bits(a, b)))
			}
		}
	}
}

func TestP14GreatestPlaces(t *testing.T) {
	const top = spans.MaxPlace
	for _, x := range []struct{ a, b, union, common, without []spans.Span }{
		{set(0, top), set(0, top), set(0, top), set(0, top), nil},
		{set(0, top), set(5, 6), set(0, top), set(5, 6), set(0, 5, 6, top)},
		{set(0, top-1), set(top-1, top), set(0, top), nil, set(0, top-1)},
		{set(0, 1, top-1, top), set(1, top-1), set(0, top), nil, set(0, 1, top-1, top)},
		{set(top-1, top), set(0, top), set(0, top), set(top-1, top), nil},
		{nil, []spans.Span{}, nil, nil, nil},
	} {
		wants := [][]spans.Span{x.union, x.common, x.without}
		for i, o := range operations() {
			got, e := o.do(x.a, x.b)
			expect(t, o.name, got, e, wants[i])
		}
	}
}

func TestP14Errors(t *testing.T) {
	for _, o := range operations() {
		for _, x := range wrongSets() {
			got, e := o.do(x.l, nil)
			expectError(t, o.name+" "+x.name, got, e, x.e)
			got, e = o.do(nil, x.l)
			expectError(t, o.name+" "+x.name, got, e, x.e)
		}
		got, e := o.do(set(1, 1), set(1, 2, 2, 3))
		expectError(t, o.name+" of two wrong ones", got, e, api.ErrArg)
		got, e = o.do(set(1, 2, 2, 3), set(1, 1))
		expectError(t, o.name+" of two wrong ones", got, e, api.ErrOrder)
	}
}

func TestP14Limit(t *testing.T) {
	most := comb(api.MaxList, 0, 1, 2)
	got, e := spans.Union(most[1:], set(0, 1))
	expect(t, "Union of as many as there may be", got, e, most)
	got, e = spans.Union(most, set(2*api.MaxList, 2*api.MaxList+1))
	expectError(t, "Union of one too many", got, e, api.ErrLimit)
	got, e = spans.Union(most, comb(api.MaxList, 1, 1, 2))
	expect(t, "Union of all of them", got, e, set(0, 2*api.MaxList))

	a, b := comb(api.MaxList, 0, 3, 4), comb(api.MaxList, 2, 3, 4)
	got, e = spans.Common(a, b)
	expectError(t, "Common with too many", got, e, api.ErrLimit)
	got, e = spans.Common(a, b[:api.MaxList/2])
	expect(t, "Common with as many as there may be", got, e, comb(api.MaxList, 2, 1, 2))

	got, e = spans.Without(set(0, spans.MaxPlace), comb(api.MaxList, 1, 1, 2))
	expectError(t, "Without, with one too many", got, e, api.ErrLimit)
	got, e = spans.Without(set(0, 2*api.MaxList), comb(api.MaxList, 1, 1, 2))
	expect(t, "Without, with as many as there may be", got, e, most)
}

func TestP15EverySmallInsertion(t *testing.T) {
	for bits := range uint(1) << small {
		for at := range small + 2 {
			for n := range small {
				below := bits & (1<<at - 1)
				got, e := spans.Insert(ofBits(bits), at, n)
				expect(t, "Insert", got, e, ofBits(below|(bits&^below)<<n))
			}
		}
	}
}

func TestP15InsertRange(t *testing.T) {
	const top = spans.MaxPlace
	for _, x := range []struct {
		l     []spans.Span
		at, n int
		want  []spans.Span
	}{
		{nil, top, top, nil},
		{set(2, 5), 0, top - 5, set(top-3, top)},
		{set(2, 5), 4, top - 5, set(2, 4, top-1, top)},
		{set(2, 5), 5, top, set(2, 5)},
		{set(0, top), top, top, set(0, top)},
		{set(0, top), 0, 0, set(0, top)},
		{set(0, 1, 8, 9), 1, top - 9, set(0, 1, top-1, top)},
	} {
		got, e := spans.Insert(x.l, x.at, x.n)
		expect(t, "Insert", got, e, x.want)
	}
	for _, x := range []struct {
		l     []spans.Span
		at, n int
	}{
		{nil, -1, 0}, {nil, 0, -1}, {nil, top + 1, 0}, {nil, 0, top + 1},
		{nil, math.MinInt, 0}, {nil, 0, math.MinInt}, {nil, math.MaxInt, math.MaxInt},
		{set(2, 5), 0, top - 4}, {set(2, 5), 4, top - 4}, {set(2, 5), 4, top},
		{set(0, top), top - 1, 1}, {set(0, top), 0, 1},
		{set(0, 1, 8, 9), 1, top - 8}, {set(0, 1, 8, 9), 9, top + 1},
	} {
		got, e := spans.Insert(x.l, x.at, x.n)
		expectError(t, "Insert", got, e, api.ErrRange)
	}
}

func TestP15InsertErrors(t *testing.T) {
	for _, x := range wrongSets() {
		got, e := spans.Insert(x.l, 0, 0)
		expectError(t, "Insert "+x.name, got, e, x.e)
		got, e = spans.Insert(x.l, -1, spans.MaxPlace+1)
		expectError(t, "Insert "+x.name+" out of range", got, e, x.e)
	}
	most := comb(api.MaxList, 0, 2, 4)
	got, e := spans.Insert(most, 1, 1)
	expectError(t, "Insert with one too many", got, e, api.ErrLimit)
	got, e = spans.Insert(most, 1, spans.MaxPlace-4)
	expectError(t, "Insert with one too many, out of range", got, e, api.ErrRange)
	got, e = spans.Insert(most, 1, 0)
	expect(t, "Insert nothing", got, e, most)
	got, e = spans.Insert(most, 0, 3)
	expect(t, "Insert with as many as there may be", got, e, comb(api.MaxList, 3, 2, 4))
	got, e = spans.Insert(most[1:], 5, 1)
	expect(t, "Insert with as many as there may be", got, e, append(set(4, 5, 6, 7), comb(api.MaxList-2, 9, 2, 4)...))
}

func TestP16EverySmallRemoval(t *testing.T) {
	for bits := range uint(1) << small {
		for at := range small + 2 {
			for n := range small + 2 {
				below := bits & (1<<at - 1)
				got, e := spans.Remove(ofBits(bits), at, n)
				expect(t, "Remove", got, e, ofBits(below|bits>>(at+n)<<at))
			}
		}
	}
}

func TestP16RemoveRange(t *testing.T) {
	const top = spans.MaxPlace
	for _, x := range []struct {
		l     []spans.Span
		at, n int
		want  []spans.Span
	}{
		{nil, top, top, nil},
		{set(0, top), 0, top, nil},
		{set(0, top), 1, top, set(0, 1)},
		{set(0, top), top, top, set(0, top)},
		{set(0, top), 5, 3, set(0, top-3)},
		{set(top-1, top), 0, top - 1, set(0, 1)},
		{set(0, 2, top-2, top), 1, top - 2, set(0, 2)},
		{comb(api.MaxList, 0, 1, 2), 1, 1, append(set(0, 2), comb(api.MaxList-2, 3, 1, 2)...)},
	} {
		got, e := spans.Remove(x.l, x.at, x.n)
		expect(t, "Remove", got, e, x.want)
	}
	for _, x := range [][2]int{
		{-1, 0}, {0, -1}, {top + 1, 0}, {0, top + 1}, {math.MinInt, 1}, {1, math.MinInt}, {math.MaxInt, math.MaxInt},
	} {
		got, e := spans.Remove(set(1, 4), x[0], x[1])
		expectError(t, "Remove", got, e, api.ErrRange)
	}
	for _, x := range wrongSets() {
		got, e := spans.Remove(x.l, 0, 0)
		expectError(t, "Remove "+x.name, got, e, x.e)
		got, e = spans.Remove(x.l, -1, spans.MaxPlace+1)
		expectError(t, "Remove "+x.name+" out of range", got, e, x.e)
	}
}

func TestP17Operations(t *testing.T) {
	for x := range uint(1) << small {
		for y := range uint(1) << small {
			a, b := ofBits(x), ofBits(y)
			union, e := spans.Union(a, b)
			turned, f := spans.Union(b, a)
			expect(t, "Union of b and a", turned, e|f, union)
			common, e := spans.Common(a, b)
			turned, f = spans.Common(b, a)
			expect(t, "Common of b and a", turned, e|f, common)
			without, e := spans.Without(a, b)
			both, f := spans.Common(common, without)
			expect(t, "Common of Common and Without", both, e|f, nil)
			again, e := spans.Union(common, without)
			expect(t, "Union of Common and Without", again, e, a)
		}
	}
}

func TestP17InsertAndRemove(t *testing.T) {
	for bits := range uint(1) << small {
		l := ofBits(bits)
		for at := range small + 2 {
			for n := range small + 2 {
				longer, e := spans.Insert(l, at, n)
				again, f := spans.Remove(longer, at, n)
				expect(t, "Remove after Insert", again, e|f, l)
				shorter, e := spans.Remove(l, at, n)
				gone := 0
				for i := at; i < at+n; i++ {
					if spans.Has(l, i) {
						gone++
					}
				}
				if e != api.OK || spans.Count(shorter) != spans.Count(l)-gone {
					t.Errorf("Remove(%v, %d, %d): %d places remain, %d have gone", l, at, n, spans.Count(shorter), gone)
				}
			}
		}
	}
}

// TestArgumentsStay looks after rule R4: arguments are not changed, and results
// share no memory with them.
func TestArgumentsStay(t *testing.T) {
	places := []int{3, 1, 2, 7, 1}
	if _, e := spans.Of(places); e != api.OK || !slices.Equal(places, []int{3, 1, 2, 7, 1}) {
		t.Errorf("Of changed its argument: %v", places)
	}
	for name, do := range map[string]func(a, b []spans.Span) ([]spans.Span, api.Errno){
		"Union": spans.Union, "Common": spans.Common, "Without": spans.Without,
		"Insert": func(a, b []spans.Span) ([]spans.Span, api.Errno) { return spans.Insert(a, 9, 0) },
		"Remove": func(a, b []spans.Span) ([]spans.Span, api.Errno) { return spans.Remove(a, 9, 0) },
	} {
		for _, other := range [][]spans.Span{nil, set(2, 3), set(0, 20)} {
			a, b := set(1, 4, 6, 8), slices.Clone(other)
			got, e := do(a, b)
			for i := range got {
				got[i] = spans.Span{From: -7, To: -7}
			}
			if e != api.OK || !slices.Equal(a, set(1, 4, 6, 8)) || !slices.Equal(b, other) {
				t.Errorf("%s: the arguments became %v and %v (error %d)", name, a, b, e)
			}
		}
	}
}

func TestExamples(t *testing.T) {
	got, e := spans.Union(set(1, 4, 7, 8), set(4, 7))
	expect(t, "Union", got, e, set(1, 8))
	got, e = spans.Common(set(1, 4, 7, 9), set(2, 8))
	expect(t, "Common", got, e, set(2, 4, 7, 8))
	got, e = spans.Without(set(1, 9), set(2, 4, 6, 7))
	expect(t, "Without", got, e, set(1, 2, 4, 6, 7, 9))
	got, e = spans.Insert(set(1, 4), 2, 3)
	expect(t, "Insert", got, e, set(1, 2, 5, 7))
	got, e = spans.Insert(set(1, 4), 1, 3)
	expect(t, "Insert", got, e, set(4, 7))
	got, e = spans.Insert(set(1, 4), 4, 3)
	expect(t, "Insert", got, e, set(1, 4))
	got, e = spans.Remove(set(1, 4, 6, 8), 3, 3)
	expect(t, "Remove", got, e, set(1, 5))
	got, e = spans.Remove(set(1, 4), 0, 9)
	expect(t, "Remove", got, e, nil)
	if spans.Count(set(1, 4, 6, 8)) != 5 || spans.Has(set(1, 4), 4) {
		t.Error("Count or Has")
	}
}
