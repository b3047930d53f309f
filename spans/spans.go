// Package spans is layer 1: see shared/doc/01-spans.md.
package spans

import (
	"slices"

	"paternoster/api"
)

// MaxPlace is one more than the greatest place.
const MaxPlace = 1 << 30

// Span stands for the places i with From <= i < To.
type Span struct{ From, To int }

// Check returns the error of a set.
func Check(l []Span) api.Errno {
	if len(l) > api.MaxList {
		return api.ErrLimit
	}
	last := -1
	for _, s := range l {
		if s.From < 0 || s.From >= s.To || s.To > MaxPlace {
			return api.ErrArg
		}
		if s.From <= last {
			return api.ErrOrder
		}
		last = s.To
	}
	return api.OK
}

// Of returns the set of places.
func Of(places []int) ([]Span, api.Errno) {
	for _, p := range places {
		if p < 0 || p >= MaxPlace {
			return nil, api.ErrRange
		}
	}
	sorted := slices.Clone(places)
	slices.Sort(sorted)
	var set []Span
	for _, p := range sorted {
		set = join(set, p, p+1)
	}
	return finish(set)
}

// Has reports whether a place is in a set.
func Has(l []Span, i int) bool {
	if Check(l) != api.OK {
		return false
	}
search:
	for _, s := range l {
		switch {
		case i < s.From:
			break search // all spans behind begin later still
		case i < s.To:
			return true
		}
	}
	return false
}

// Count returns how many places are in a set.
func Count(l []Span) int {
	if Check(l) != api.OK {
		return 0
	}
	n := 0
	for _, s := range l {
		n += s.To - s.From
	}
	return n
}

// Union returns the places that are in one of two sets.
func Union(a, b []Span) ([]Span, api.Errno) {
	return combine(a, b, func(inA, inB bool) bool { return inA || inB })
}

// Common returns the places that are in both sets.
func Common(a, b []Span) ([]Span, api.Errno) {
	return combine(a, b, func(inA, inB bool) bool { return inA && inB })
}

// Without returns the places that are in a, but not in b.
func Without(a, b []Span) ([]Span, api.Errno) {
	return combine(a, b, func(inA, inB bool) bool { return inA && !inB })
}

// Insert returns where the places are after an insertion.
func Insert(l []Span, at, n int) ([]Span, api.Errno) {
	if e := checkChange(l, at, n); e != api.OK {
		return nil, e
	}
	var set []Span
	for _, s := range l {
		set = join(set, s.From, min(s.To, at))
		if s.To <= at {
			continue
		}
		if s.To > MaxPlace-n {
			return nil, api.ErrRange
		}
		set = join(set, max(s.From, at)+n, s.To+n)
	}
	return finish(set)
}

// Remove returns where the places are after a removal.
func Remove(l []Span, at, n int) ([]Span, api.Errno) {
	if e := checkChange(l, at, n); e != api.OK {
		return nil, e
	}
	end := at + min(n, MaxPlace-at) // no place is behind; and at + n may be too great for an int of 32 bits
	n = end - at
	var set []Span
	for _, s := range l {
		set = join(set, s.From, min(s.To, at))
		set = join(set, max(s.From, end)-n, s.To-n)
	}
	return finish(set)
}

// checkChange returns the error of what Insert and Remove are given.
func checkChange(l []Span, at, n int) api.Errno {
	if e := Check(l); e != api.OK {
		return e
	}
	if at < 0 || at > MaxPlace || n < 0 || n > MaxPlace {
		return api.ErrRange
	}
	return api.OK
}

// combine returns the places that are kept, as kept tells by the sets in which
// they are.
func combine(a, b []Span, kept func(inA, inB bool) bool) ([]Span, api.Errno) {
	if e := Check(a); e != api.OK {
		return nil, e
	}
	if e := Check(b); e != api.OK {
		return nil, e
	}
	var set []Span
	place := 0
sweep:
	for place < MaxPlace {
		switch {
		case len(a) > 0 && a[0].To <= place:
			a = a[1:]
			continue sweep
		case len(b) > 0 && b[0].To <= place:
			b = b[1:]
			continue sweep
		}
		inA, endA := stretch(a, place)
		inB, endB := stretch(b, place)
		end := min(endA, endB)
		if kept(inA, inB) {
			set = join(set, place, end)
		}
		place = end
	}
	return finish(set)
}

// stretch reports whether a place is in a set whose first span ends behind it,
// and up to where that is so without a break.
func stretch(l []Span, place int) (in bool, end int) {
	switch {
	case len(l) == 0:
		return false, MaxPlace
	case place < l[0].From:
		return false, l[0].From
	}
	return true, l[0].To
}

// join adds places, none of which is ahead of the last span, to a set. Spans of
// a set may not touch: places that touch the last span make it longer.
func join(l []Span, from, to int) []Span {
	if from >= to {
		return l
	}
	if n := len(l); n > 0 && from <= l[n-1].To {
		l[n-1].To = max(l[n-1].To, to)
		return l
	}
	return append(l, Span{From: from, To: to})
}

// finish returns a set without spare capacity, or the error of one that has too
// many spans.
func finish(l []Span) ([]Span, api.Errno) {
	if len(l) > api.MaxList {
		return nil, api.ErrLimit
	}
	return slices.Clip(l), api.OK
}
