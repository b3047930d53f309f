// Package alike tells whether trees, templates and configurations are equal, valid
// or not, and copies them, lists and events; layers that accept all values need
// it.
package alike

import (
	"slices"

	"paternoster/api"
	"paternoster/lists"
)

// Trees reports whether all fields of two trees are equal.
func Trees(a, b api.Node) bool {
	return a.Kind == b.Kind && a.Tag == b.Tag && a.Key == b.Key && a.Text == b.Text &&
		slices.Equal(a.Attrs, b.Attrs) && slices.EqualFunc(a.Children, b.Children, Trees)
}

// Parts reports whether all fields of two templates are equal.
func Parts(a, b api.Part) bool {
	return a.Kind == b.Kind && a.Tag == b.Tag && a.Key == b.Key && a.Text == b.Text &&
		slices.Equal(a.Slots, b.Slots) && slices.EqualFunc(a.Parts, b.Parts, Parts)
}

// Configs reports whether all fields of two configurations are equal.
func Configs(a, b api.Config) bool {
	return a.View == b.View && a.Over == b.Over && a.Least == b.Least && a.Cap == b.Cap && a.Arena == b.Arena && a.Flaw == b.Flaw &&
		slices.EqualFunc(a.Kinds, b.Kinds, func(a, b api.Kind) bool {
			return Parts(a.Template, b.Template) && a.Base == b.Base && a.Sticky == b.Sticky && a.Pool == b.Pool
		})
}

// CopyTree returns an equal tree in new memory.
func CopyTree(n api.Node) api.Node {
	n.Attrs = Copy(n.Attrs)
	n.Children = Copy(n.Children)
	for i, child := range n.Children {
		n.Children[i] = CopyTree(child)
	}
	return n
}

// CopyPart returns an equal template in new memory.
func CopyPart(p api.Part) api.Part {
	p.Slots = Copy(p.Slots)
	p.Parts = Copy(p.Parts)
	for i, below := range p.Parts {
		p.Parts[i] = CopyPart(below)
	}
	return p
}

// CopyConfig returns an equal configuration in new memory.
func CopyConfig(c api.Config) api.Config {
	c.Kinds = Copy(c.Kinds)
	for i := range c.Kinds {
		c.Kinds[i].Template = CopyPart(c.Kinds[i].Template)
	}
	return c
}

// Copy returns an equal list in new memory, without spare capacity.
func Copy[T any](l []T) []T {
	if len(l) == 0 {
		return nil
	}
	out := make([]T, len(l))
	copy(out, l)
	return out
}

// CopyList returns an equal list of entries in new memory.
func CopyList(l lists.List) lists.List {
	out := lists.List{Entries: Copy(l.Entries)}
	for i := range out.Entries {
		out.Entries[i].Item.Marks = Copy(out.Entries[i].Item.Marks)
	}
	return out
}

// CopyEvents returns equal events in new memory.
func CopyEvents(l []api.Event) []api.Event {
	out := Copy(l)
	for i := range out {
		out[i].Heights = Copy(out[i].Heights)
		out[i].Notices = Copy(out[i].Notices)
		for k := range out[i].Notices {
			n := &out[i].Notices[k]
			n.Items = Copy(n.Items)
			for j := range n.Items {
				n.Items[j].Marks = Copy(n.Items[j].Marks)
			}
		}
	}
	return out
}
