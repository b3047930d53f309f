package audits

import (
	"slices"

	"paternoster/api"
	"paternoster/engines"
	"paternoster/heads"
	"paternoster/lists"
	"paternoster/models"
	"paternoster/nodes"
	"paternoster/renders"
	"paternoster/snapshots"
	"paternoster/windows"
)

// looks is what is looked at in an engine.
type looks struct {
	engine *engines.Engine
	config api.Config
	rules  lists.Rules
	list   lists.List
	rows   []row
}

// row is a row that is attached.
type row struct {
	key  uint64
	root api.Handle
}

func look(g *engines.Engine) *looks {
	c := g.Config()
	l := &looks{engine: g, config: c, rules: lists.Rules{Kinds: c.Kinds, Cap: c.Cap}, list: g.List()}
	for _, r := range g.Rows() {
		l.rows = append(l.rows, row{key: r.Key, root: r.Root})
	}
	return l
}

// all reports whether something is so for all attached rows; at is the index of the
// entry of a row, -1 if there is none.
func (l *looks) all(holds func(r row, at int) bool) bool {
	return !slices.ContainsFunc(l.rows, func(r row) bool {
		at, found := lists.Find(l.list, r.key)
		if !found {
			at = -1
		}
		return !holds(r, at)
	})
}

func (l *looks) known() bool {
	return l.all(func(_ row, at int) bool { return at >= 0 && l.list.Entries[at].Known })
}

func (l *looks) attached() bool {
	g := l.engine
	attached, e := windows.Attached(l.rules, l.list, g.Offset(), g.View(), l.config.Over)
	return e == api.OK && slices.EqualFunc(attached, l.rows, func(i int, r row) bool { return l.list.Entries[i].Item.Key == r.key })
}

func (l *looks) tops() bool {
	tops, _ := renders.Tops(l.list)
	return l.all(func(r row, at int) bool {
		v, e := l.engine.Dom().Look(r.root)
		return e == api.OK && at >= 0 && v.Size == l.list.Entries[at].Size && (v.Pinned || v.Top == tops[at])
	})
}

func (l *looks) trees() bool {
	return l.all(func(r row, at int) bool {
		if at < 0 {
			return false
		}
		tree, e := l.engine.Dom().Tree(r.root)
		want, f := lists.Tree(l.rules, lists.List{Entries: l.list.Entries[at : at+1]}, 0)
		return e == api.OK && f == api.OK && nodes.Same(tree, nodes.Strip(want))
	})
}

func (l *looks) roots() bool {
	g := l.engine
	want := []api.Handle{g.Root()}
	for _, rows := range g.Pools().Rows {
		for _, r := range rows {
			want = append(want, r.Root)
		}
	}
	slices.SortFunc(want, func(a, b api.Handle) int { return int(a.Index) - int(b.Index) })
	v, _ := g.Dom().Look(g.Root())
	return slices.Equal(g.Dom().Roots(), want) && slices.EqualFunc(v.Children, l.rows, func(h api.Handle, r row) bool { return h == r.root })
}

func (l *looks) pools() bool {
	for i, rows := range l.engine.Pools().Rows {
		if len(rows) > l.config.Kinds[i].Pool {
			return false
		}
	}
	return true
}

func (l *looks) bound() bool {
	most, e := windows.Bound(l.engine.View(), l.config.Least, l.config.Over)
	return e == api.OK && int64(len(l.rows)) <= most && l.engine.Dom().Counters().Live <= l.config.Arena
}

func (l *looks) clamped() bool {
	g := l.engine
	return g.Offset() >= 0 && g.Offset() <= max(0, lists.Total(l.list)-g.View())
}

func (l *looks) head() bool {
	s := l.engine.Offset()
	at, found, e := heads.Of(l.rules, l.list, s)
	if e != api.OK {
		return false
	}
	place, _ := heads.Place(l.rules, l.list, s)
	pinned := 0
	right := l.all(func(r row, _ int) bool {
		v, e := l.engine.Dom().Look(r.root)
		if e != api.OK || !v.Pinned {
			return e == api.OK
		}
		pinned++
		return found && l.list.Entries[at].Item.Key == r.key && v.Top == s+place
	})
	return right && (pinned == 1 || !found && pinned == 0)
}

// both are an engine and a model that are compared.
type both struct {
	engine *engines.Engine
	model  models.Model
}

func (b *both) list() bool   { return lists.Same(b.engine.List(), b.model.List()) }
func (b *both) view() bool   { return b.engine.View() == b.model.View() }
func (b *both) offset() bool { return b.engine.Offset() == b.model.Offset() }
func (b *both) rounds() bool { return b.engine.Counts().Rounds == b.model.Rounds() }

func (b *both) counts() bool {
	x, y := b.engine.Counts(), b.model.Counts()
	return x.Rebound == y.Rebound && x.Made == y.Made && x.Dropped == y.Dropped
}

func (b *both) live() bool { return b.engine.Dom().Counters().Live == b.model.Counts().Live }

func (b *both) rows() bool {
	rows, held := b.engine.Rows(), b.model.Holds().Rows
	return equal(len(rows), len(held), func(i int) bool {
		r, h := rows[i], held[i]
		return r.Key == h.Key && r.Type == h.Type && nodes.Same(r.Tree, h.Tree)
	})
}

func (b *both) pools() bool {
	rows, held := b.engine.Pools().Rows, b.model.Holds().Pools
	return equal(len(rows), len(held), func(kind int) bool {
		return equal(len(rows[kind]), len(held[kind]), func(i int) bool {
			r, h := rows[kind][i], held[kind][i]
			return r.Key == h.Key && r.Type == h.Type && nodes.Same(r.Tree, h.Tree)
		})
	})
}

func (b *both) slice() bool {
	seen, e := snapshots.Seen(b.engine)
	return e == api.OK && renders.Same(seen, b.model.Slice())
}

// equal reports whether two lists are as long as each other, and the same at all
// indices.
func equal(n, m int, same func(i int) bool) bool {
	if n != m {
		return false
	}
	for i := range n {
		if !same(i) {
			return false
		}
	}
	return true
}
