package doms

import (
	"slices"

	"paternoster/api"
)

// first returns the first error of some checks, which are called one after
// another: each may rely on those ahead of it.
func first(checks ...func() api.Errno) api.Errno {
	for _, check := range checks {
		if e := check(); e != api.OK {
			return e
		}
	}
	return api.OK
}

// valid checks that a handle is valid.
func (d *Dom) valid(h api.Handle) func() api.Errno {
	return func() api.Errno {
		if d == nil {
			return api.ErrNil
		}
		if !d.arena.Valid(h) {
			return api.ErrNone
		}
		return api.OK
	}
}

// validOrZero checks that a handle is valid, or the zero Handle.
func (d *Dom) validOrZero(h api.Handle) func() api.Errno {
	if h == (api.Handle{}) {
		return func() api.Errno { return api.OK }
	}
	return d.valid(h)
}

// is checks that a node has a kind.
func (d *Dom) is(h api.Handle, kind uint8) func() api.Errno {
	return func() api.Errno {
		if d.node(h).Kind != kind {
			return api.ErrArg
		}
		return api.OK
	}
}

// child checks that a node is not a root.
func (d *Dom) child(h api.Handle) func() api.Errno {
	return func() api.Errno {
		if d.node(h).Parent == (api.Handle{}) {
			return api.ErrState
		}
		return api.OK
	}
}

// node returns the node with a valid handle.
func (d *Dom) node(h api.Handle) *node {
	n, _ := d.arena.At(h)
	return n
}

// above reports whether a node is another one, or above it.
func (d *Dom) above(h, other api.Handle) bool {
	for other != (api.Handle{}) {
		if other == h {
			return true
		}
		other = d.node(other).Parent
	}
	return false
}

// create creates a root.
func (d *Dom) create(v View) (api.Handle, api.Errno) {
	h, e := d.arena.Take(&node{View: v})
	if e != api.OK {
		return api.Handle{}, e
	}
	d.note(func() { d.arena.Untake(h) })
	d.counters.Live++
	d.counters.Created++
	return h, api.OK
}

// setAttrs gives an Element other attributes.
func (d *Dom) setAttrs(n *node, now []api.Attr) {
	old := n.Attrs
	d.note(func() { n.Attrs = old })
	n.Attrs = now
	d.counters.Wrote++
}

// note notes a step, if the DOM records; the counters are as they were before it.
func (d *Dom) note(undo func()) { d.noteFrom(d.counters, undo) }

// noteFrom notes a step ahead of which the counters were before.
func (d *Dom) noteFrom(before Counters, undo func()) {
	if !d.recording {
		return
	}
	d.steps = append(d.steps, func() {
		undo()
		d.counters = before
	})
}

// place returns the index of a child; that behind the last one for the zero Handle.
func (n *node) place(child api.Handle) int {
	if child == (api.Handle{}) {
		return len(n.Children)
	}
	return slices.Index(n.Children, child)
}

// put puts children in.
func (n *node) put(at int, l ...api.Handle) { n.Children = slices.Insert(n.Children, at, l...) }

// take takes a child out.
func (n *node) take(at int) { n.Children = slices.Delete(n.Children, at, at+1) }
