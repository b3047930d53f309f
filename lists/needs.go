package lists

import (
	"paternoster/api"
	"paternoster/items"
	"paternoster/templates"
)

// needs is what the items of an operation need.
type needs struct {
	rules Rules
	fits  func(i int, x api.Item) api.Errno // what the operation alone needs
}

// check returns the error of the item i.
func (n needs) check(i int, x api.Item) api.Errno {
	if e := items.Check(x, len(n.rules.Kinds)); e != api.OK {
		return e
	}
	if e := n.fits(i, x); e != api.OK {
		return e
	}
	_, e := render(n.rules, x)
	return e
}

// fresh returns fresh entries of items.
func (n needs) fresh(l []api.Item) ([]Entry, api.Errno) {
	entries := make([]Entry, len(l))
	for i, x := range l {
		if e := n.check(i, x); e != api.OK {
			return nil, e
		}
		entries[i] = Entry{Item: x, Size: n.rules.Kinds[x.Type].Base}
	}
	return entries, api.OK
}

// unlike returns a function that needs keys that neither the entries nor the items
// before have.
func unlike(l []Entry) func(i int, x api.Item) api.Errno {
	seen := make(map[uint64]bool, len(l))
	for i := range l {
		seen[l[i].Item.Key] = true
	}
	return func(_ int, x api.Item) api.Errno {
		if seen[x.Key] {
			return api.ErrTwice
		}
		seen[x.Key] = true
		return api.OK
	}
}

// render returns the tree of an item that is valid.
func render(c Rules, x api.Item) (api.Node, api.Errno) {
	n, e := templates.Render(c.Kinds[x.Type].Template, x, c.Cap)
	if e != api.OK {
		return api.Node{}, api.ErrTree
	}
	return n, api.OK
}

// span returns the error of a list, or of count entries from an index on.
func span(c Rules, l List, at, count int) api.Errno {
	if e := Check(c, l); e != api.OK {
		return e
	}
	if at < 0 || at > len(l.Entries) || count < 0 || count > len(l.Entries)-at {
		return api.ErrRange
	}
	return api.OK
}

// height reports whether a size may be one of an entry.
func height(size int64) bool { return size >= 1 && size <= api.MaxHeight }

// total returns the error of the total of a list.
func total(l List) api.Errno {
	if Total(l) > api.MaxTotal {
		return api.ErrOverflow
	}
	return api.OK
}

// finish returns the list of entries in new memory, or the error of its total.
func finish(l []Entry) (List, api.Errno) {
	if e := total(List{Entries: l}); e != api.OK {
		return List{}, e
	}
	out := make([]Entry, len(l))
	for i, x := range l {
		out[i] = x
		out[i].Item.Marks = splice(x.Item.Marks, 0, 0)
	}
	return List{Entries: out}, api.OK
}

// splice returns a list in new memory in which others stand in the place of count
// elements.
func splice[T any](l []T, at, count int, others ...T) []T {
	n := len(l) - count + len(others)
	if n == 0 {
		return nil
	}
	out := make([]T, 0, n)
	out = append(out, l[:at]...)
	out = append(out, others...)
	return append(out, l[at+count:]...)
}
