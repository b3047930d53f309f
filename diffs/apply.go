package diffs

import (
	"slices"

	"paternoster/api"
	"paternoster/attrs"
	"paternoster/nodes"
)

// Apply returns a tree after steps. (P19.3)
func Apply(n api.Node, l []Step) (api.Node, api.Errno) {
	if e := nodes.Check(n); e != api.OK {
		return api.Node{}, e
	}
	if len(l) > api.MaxList {
		return api.Node{}, api.ErrLimit
	}
	root := nodes.Copy(n)
	for _, s := range l {
		if e := form(s); e != api.OK {
			return api.Node{}, e
		}
		at, e := find(&root, s.Path)
		if e != api.OK {
			return api.Node{}, e
		}
		if e := carry(at, s); e != api.OK {
			return api.Node{}, e
		}
	}
	if e := nodes.Check(root); e != api.OK {
		return api.Node{}, e
	}
	return nodes.Copy(root), api.OK
}

// form returns the error of the form of a step.
func form(s Step) api.Errno {
	rest := s // without what it uses
	rest.What, rest.Path = 0, nil
	switch s.What {
	case DropAttr:
		rest.Name = ""
	case SetAttr:
		rest.Name, rest.Value = "", ""
	case SetText:
		rest.Value = ""
	case Free:
		rest.At = 0
	case Mount:
		rest.To, rest.Tree = 0, api.Node{}
	case Move:
		rest.At, rest.To = 0, 0
	case Replace:
		rest.Path, rest.Tree = s.Path, api.Node{}
	default:
		return api.ErrArg
	}
	tree := rest.Tree
	if len(rest.Path) > 0 || rest.Name != "" || rest.Value != "" || rest.At != 0 || rest.To != 0 || tree.Kind != 0 ||
		tree.Tag != "" || tree.Key != "" || tree.Text != "" || len(tree.Attrs) > 0 || len(tree.Children) > 0 {
		return api.ErrForm
	}
	return api.OK
}

// find returns the node at a path.
func find(n *api.Node, path []int) (*api.Node, api.Errno) {
	for _, i := range path {
		if i < 0 || i >= len(n.Children) {
			return nil, api.ErrNone
		}
		n = &n.Children[i]
	}
	return n, api.OK
}

// carry carries out a step at a node.
func carry(n *api.Node, s Step) api.Errno {
	kind := api.Element
	if s.What == SetText {
		kind = api.Words
	}
	if n.Kind != kind && s.What != Replace {
		return api.ErrArg
	}
	switch s.What {
	case DropAttr, SetAttr:
		return carryAttr(n, s)
	case SetText:
		if nodes.Check(api.Node{Kind: api.Words, Text: s.Value}) != api.OK {
			return api.ErrTree
		}
		n.Text = s.Value
	case Free, Move:
		return carryChild(n, s)
	default:
		if e := nodes.Check(s.Tree); e != api.OK {
			return e
		}
		if s.What == Replace {
			*n = nodes.Copy(s.Tree)
			return api.OK
		}
		if s.To < 0 || s.To > len(n.Children) {
			return api.ErrArg
		}
		n.Children = slices.Insert(n.Children, s.To, nodes.Copy(s.Tree))
	}
	return api.OK
}

// carryAttr drops or sets an attribute.
func carryAttr(n *api.Node, s Step) api.Errno {
	if s.What == DropAttr {
		at := slices.IndexFunc(n.Attrs, func(a api.Attr) bool { return a.Name == s.Name })
		if at < 0 {
			return api.ErrNone
		}
		n.Attrs = slices.Delete(n.Attrs, at, at+1)
		return api.OK
	}
	now, e := attrs.Apply(n.Attrs, []attrs.Edit{{Name: s.Name, Value: s.Value}})
	if e != api.OK {
		return api.ErrTree
	}
	n.Attrs = now
	return api.OK
}

// carryChild takes a child away, or puts it elsewhere.
func carryChild(n *api.Node, s Step) api.Errno {
	if s.At < 0 || s.At >= len(n.Children) {
		return api.ErrNone
	}
	if s.What == Move && (s.To < 0 || s.To >= len(n.Children)) {
		return api.ErrArg
	}
	child := n.Children[s.At]
	n.Children = slices.Delete(n.Children, s.At, s.At+1)
	if s.What == Move {
		n.Children = slices.Insert(n.Children, s.To, child)
	}
	return api.OK
}
