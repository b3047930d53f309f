package doms

import (
	"slices"

	"paternoster/api"
	"paternoster/nodes"
)

// Look returns a node as it is. (P16.5)
func (d *Dom) Look(h api.Handle) (View, api.Errno) {
	if e := first(d.valid(h)); e != api.OK {
		return View{}, e
	}
	v := d.node(h).View
	v.Attrs, v.Children = exact(v.Attrs), exact(v.Children)
	return v, api.OK
}

// Tree returns the tree of a node. (P16.5)
func (d *Dom) Tree(h api.Handle) (api.Node, api.Errno) {
	if e := first(d.valid(h)); e != api.OK {
		return api.Node{}, e
	}
	count := 0
	var tree func(h api.Handle, level int) (api.Node, bool)
	tree = func(h api.Handle, level int) (api.Node, bool) {
		n := d.node(h)
		count++
		if level > api.MaxDepth || count > api.MaxNodes { // a DOM may be far greater than a tree
			return api.Node{}, false
		}
		out := api.Node{Kind: n.Kind, Tag: n.Tag, Attrs: exact(n.Attrs), Text: n.Text}
		for _, child := range n.Children {
			below, ok := tree(child, level+1)
			if !ok {
				return api.Node{}, false
			}
			out.Children = append(out.Children, below)
		}
		out.Children = slices.Clip(out.Children)
		return out, true
	}
	n, ok := tree(h, 1)
	if !ok || nodes.Check(n) != api.OK {
		return api.Node{}, api.ErrTree
	}
	return n, api.OK
}

// Roots returns the handles of all roots. (P16.6)
func (d *Dom) Roots() []api.Handle {
	if d == nil {
		return nil
	}
	l := slices.DeleteFunc(d.arena.Handles(), func(h api.Handle) bool { return d.node(h).Parent != (api.Handle{}) })
	return slices.Clip(l)
}

// Waiting returns the handles that free slots will have. (P16.6)
func (d *Dom) Waiting() []api.Handle {
	if d == nil {
		return nil
	}
	return d.arena.Waiting()
}

// Counters returns the counters. (P16.6)
func (d *Dom) Counters() Counters {
	if d == nil {
		return Counters{}
	}
	return d.counters
}

// Record begins or ends recording. (P16.7)
func (d *Dom) Record(on bool) api.Errno {
	if d == nil {
		return api.ErrNil
	}
	d.recording, d.steps = on, nil
	return api.OK
}

// Steps returns the number of steps. (P16.7)
func (d *Dom) Steps() int {
	if d == nil {
		return 0
	}
	return len(d.steps)
}

// Undo undoes steps. (P16.7)
func (d *Dom) Undo(to int) api.Errno {
	if d == nil {
		return api.ErrNil
	}
	if !d.recording {
		return api.ErrState
	}
	if to < 0 || to > len(d.steps) {
		return api.ErrRange
	}
	for _, undo := range slices.Backward(d.steps[to:]) {
		undo()
	}
	clear(d.steps[to:])
	d.steps = d.steps[:to]
	return api.OK
}

// Copy returns a DOM that is equal. (P16.8)
func (d *Dom) Copy() *Dom {
	if d == nil {
		return nil
	}
	same := &Dom{arena: *d.arena.Copy(), counters: d.counters}
	for _, h := range d.arena.Handles() {
		v, _ := d.Look(h)
		same.arena.Set(h, &node{View: v})
	}
	return same
}

// Same reports whether two DOMs are equal. (P16.8)
func Same(a, b *Dom) bool {
	if a == nil || b == nil {
		return a == b
	}
	if a.counters != b.counters || !slices.Equal(a.Waiting(), b.Waiting()) {
		return false
	}
	l := a.arena.Handles()
	if !slices.Equal(l, b.arena.Handles()) {
		return false
	}
	for _, h := range l {
		if !alike(a.node(h).View, b.node(h).View) {
			return false
		}
	}
	return true
}

// alike reports whether two views are equal.
func alike(a, b View) bool {
	return a.Kind == b.Kind && a.Tag == b.Tag && slices.Equal(a.Attrs, b.Attrs) && a.Text == b.Text &&
		a.Top == b.Top && a.Size == b.Size && a.Pinned == b.Pinned && a.Parent == b.Parent && slices.Equal(a.Children, b.Children)
}

// exact returns a list in new memory without spare capacity, nil if it is empty.
func exact[T any](l []T) []T {
	if len(l) == 0 {
		return nil
	}
	same := make([]T, len(l))
	copy(same, l)
	return same
}
