package stores

import (
	"paternoster/api"
	"paternoster/items"
	"paternoster/keymaps"
	"paternoster/layouts"
	"paternoster/notices"
)

// way is how notices of a kind are carried out.
type way struct {
	kind uint8
	do   func(s *Store, n api.Notice) api.Errno
}

// ways returns how notices are carried out.
func ways() []way {
	return []way{
		{api.Insert, (*Store).insert},
		{api.Remove, (*Store).remove},
		{api.Move, (*Store).move},
		{api.Change, (*Store).change},
		{api.Reset, (*Store).reset},
	}
}

// Apply makes the list what it is after a notice. (P35.4)
func (s *Store) Apply(n api.Notice) api.Errno {
	if s.none() {
		return api.ErrNil
	}
	if e := notices.Check(n); e != api.OK {
		return e
	}
	for _, w := range ways() {
		if w.kind == n.Kind {
			return w.do(s, n)
		}
	}
	return api.ErrArg
}

// All makes the list what it is after all notices of a list. (P35.4)
func (s *Store) All(l []api.Notice) (at int, e api.Errno) {
	if s.none() {
		return 0, api.ErrNil
	}
	if len(l) > api.MaxNotices {
		return 0, api.ErrLimit
	}
	now := s.Copy()
	for i, n := range l {
		if e := now.Apply(n); e != api.OK {
			return i, e
		}
	}
	*s = *now
	return len(l), api.OK
}

func (s *Store) insert(n api.Notice) api.Errno {
	if n.At < 0 || n.At > s.Len() {
		return api.ErrRange
	}
	if len(n.Items) > api.MaxItems-s.Len() {
		return api.ErrLimit
	}
	if e := s.check(n.Items, s.unlike(s.places)); e != api.OK {
		return e
	}
	if e := s.lay(s.layout, n.At, n.Items); e != api.OK {
		return e
	}
	s.items.Insert(n.At, items.Copy(n.Items)...)
	s.number(n.At, s.Len())
	return api.OK
}

func (s *Store) remove(n api.Notice) api.Errno {
	if e := s.layout.Remove(n.At, n.Count); e != api.OK {
		return e
	}
	for i := n.At; i < n.At+n.Count; i++ {
		x, _ := s.items.At(i)
		s.places.Drop(x.Key)
	}
	s.items.Remove(n.At, n.Count)
	s.number(n.At, s.Len())
	return api.OK
}

func (s *Store) move(n api.Notice) api.Errno {
	if e := s.layout.Move(n.At, n.Count, n.To); e != api.OK {
		return e
	}
	s.items.Move(n.At, n.Count, n.To)
	s.number(min(n.At, n.To), max(n.At, n.To)+n.Count)
	return api.OK
}

func (s *Store) change(n api.Notice) api.Errno {
	if n.At < 0 || n.At > s.Len() || len(n.Items) > s.Len()-n.At {
		return api.ErrRange
	}
	e := s.check(n.Items, func(i int, x api.Item) api.Errno {
		if old, _ := s.items.At(n.At + i); old.Key != x.Key {
			return api.ErrKey
		}
		return api.OK
	})
	if e != api.OK {
		return e
	}
	// Only the total behind all changes counts, so that all sizes come at once.
	now := s.layout.Copy()
	now.Remove(n.At, len(n.Items))
	if e := s.lay(now, n.At, n.Items); e != api.OK {
		return e
	}
	s.layout = now
	for i, x := range items.Copy(n.Items) {
		s.items.Set(n.At+i, x)
	}
	return api.OK
}

func (s *Store) reset(n api.Notice) api.Errno {
	if len(n.Items) > api.MaxItems {
		return api.ErrLimit
	}
	if e := s.check(n.Items, s.unlike(nil)); e != api.OK {
		return e
	}
	now := layouts.New()
	if e := s.lay(now, 0, n.Items); e != api.OK {
		return e
	}
	s.clear()
	s.layout = now
	s.items.Insert(0, items.Copy(n.Items)...)
	s.number(0, s.Len())
	return api.OK
}

// check returns the error of the first item that has one; fits tells what the
// notice alone needs.
func (s *Store) check(l []api.Item, fits func(i int, x api.Item) api.Errno) api.Errno {
	for i, x := range l {
		if e := items.Check(x, len(s.rules.Kinds)); e != api.OK {
			return e
		}
		if e := fits(i, x); e != api.OK {
			return e
		}
		if _, e := s.render(x); e != api.OK {
			return e
		}
	}
	return api.OK
}

// unlike returns a function that needs keys that neither a map nor the items
// before have.
func (s *Store) unlike(there *keymaps.Map) func(i int, x api.Item) api.Errno {
	seen := keymaps.New()
	return func(_ int, x api.Item) api.Errno {
		_, old := there.Get(x.Key)
		_, twice := seen.Get(x.Key)
		if old || twice {
			return api.ErrTwice
		}
		return seen.Put(x.Key, 0)
	}
}

// lay puts rows of items that are fresh into a layout.
func (s *Store) lay(l *layouts.Layout, at int, x []api.Item) api.Errno {
	sizes, sticky := make([]int64, len(x)), make([]bool, len(x))
	for i := range x {
		kind := s.rules.Kinds[x[i].Type]
		sizes[i], sticky[i] = kind.Base, kind.Sticky
	}
	return l.Insert(at, sizes, sticky)
}

// number notes the indices of entries.
func (s *Store) number(from, to int) {
	for i := from; i < to; i++ {
		x, _ := s.items.At(i)
		s.places.Put(x.Key, i)
	}
}
