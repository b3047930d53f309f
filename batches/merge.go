package batches

import (
	"math"
	"slices"

	"paternoster/api"
	"paternoster/items"
	"paternoster/notices"
)

// Merge returns the merged batch. (P26.5)
func Merge(x []api.Notice) ([]api.Notice, api.Errno) {
	if len(x) > api.MaxNotices {
		return nil, api.ErrLimit
	}
	for _, n := range x {
		if e := notices.Check(n); e != api.OK {
			return nil, e
		}
	}
	var kept []api.Notice
	for _, n := range x {
		if idle(n) {
			continue
		}
		n.Items = items.Copy(n.Items)
		if n.Kind == api.Reset {
			kept = []api.Notice{n}
			continue
		}
		last := len(kept) - 1
		if last >= 0 {
			if both, ok := merged(kept[last], n); ok {
				kept[last] = both
				continue
			}
		}
		kept = append(kept, n)
	}
	return slices.Clip(kept), api.OK
}

// idle reports whether a notice does nothing.
func idle(n api.Notice) bool {
	switch n.Kind {
	case api.Insert, api.Change:
		return len(n.Items) == 0
	case api.Move:
		return n.Count == 0 || n.To == n.At
	case api.Remove:
		return n.Count == 0
	}
	return false
}

// merged returns two neighbouring notices as one, if they can be merged.
func merged(m, n api.Notice) (api.Notice, bool) {
	at, count := n.At, n.Count
	switch m.Kind {
	case api.Remove:
		return removed(m, n)
	case api.Insert:
		if n.Kind != api.Insert || m.At < 0 || at < m.At {
			return api.Notice{}, false
		}
		at -= m.At // an index of the items of m
		fallthrough
	case api.Reset:
		if n.Kind == api.Move {
			return api.Notice{}, false
		}
		if n.Kind == api.Change {
			count = len(n.Items)
		}
		k := len(m.Items)
		if at < 0 || at > k || count < 0 || count > k-at {
			return api.Notice{}, false
		}
		m.Items = slices.Clip(slices.Concat(m.Items[:at], n.Items, m.Items[at+count:]))
		return m, true
	}
	return api.Notice{}, false
}

// removed returns two neighbouring notices of which the first one is a Remove.
func removed(m, n api.Notice) (api.Notice, bool) {
	if n.Kind != api.Remove || m.Count < 0 || n.Count < 0 || n.At < 0 || n.At > m.At || m.At-n.At > n.Count || m.Count > math.MaxInt-n.Count {
		return api.Notice{}, false
	}
	return api.Notice{Kind: api.Remove, At: n.At, Count: m.Count + n.Count}, true
}
