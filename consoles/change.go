package consoles

import (
	"math"
	"strconv"
	"strings"

	"paternoster/api"
	"paternoster/mutants"
	"paternoster/scripts"
)

// become returns what the script becomes by a line that changes it, and whether the
// reply is about its last event.
func (c *Console) become(call Call) (s scripts.Script, event bool, e api.Errno) {
	switch call.Word {
	case "new":
		return beginning(), false, api.OK
	case "mutant":
		if call.N[0] > math.MaxUint8 {
			return scripts.Script{}, false, api.ErrRange
		}
		s, e = mutants.Script(uint8(call.N[0]))
		return s, false, e
	case "cut":
		s, e = scripts.Cut(c.script, int(call.N[0]))
		return s, false, e
	case "drop":
		s, e = scripts.Without(c.script, int(call.N[0]))
		return s, false, e
	case "load":
		s, _, e = scripts.Parse(strings.ReplaceAll(call.Text, "|", "\n") + "\n")
		return s, false, e
	}
	s = c.Script()
	set, e := setting(call)
	switch {
	case e != api.OK:
		return scripts.Script{}, false, e
	case set != nil:
		e = set(&s.Config)
	default:
		event = true
		e = happen(&s, call)
	}
	if e == api.OK {
		e = scripts.Check(s)
	}
	if e != api.OK {
		return scripts.Script{}, false, e
	}
	return s, event, api.OK
}

// setting returns what a line does to the configuration, nil if it does nothing to
// it.
func setting(call Call) (func(c *api.Config) api.Errno, api.Errno) {
	set := func(change func(c *api.Config)) func(c *api.Config) api.Errno {
		return func(c *api.Config) api.Errno {
			change(c)
			return api.OK
		}
	}
	kind := func(change func(k *api.Kind)) func(c *api.Config) api.Errno {
		return func(c *api.Config) api.Errno {
			if call.N[0] >= int64(len(c.Kinds)) {
				return api.ErrRange
			}
			change(&c.Kinds[call.N[0]])
			return api.OK
		}
	}
	switch call.Word {
	case "view":
		return set(func(c *api.Config) { c.View = call.N[0] }), api.OK
	case "over":
		return set(func(c *api.Config) { c.Over = int(call.N[0]) }), api.OK
	case "least":
		return set(func(c *api.Config) { c.Least = call.N[0] }), api.OK
	case "arena":
		return set(func(c *api.Config) { c.Arena = int(call.N[0]) }), api.OK
	case "flaw":
		if call.N[0] > math.MaxUint8 {
			return nil, api.ErrRange
		}
		return set(func(c *api.Config) { c.Flaw = uint8(call.N[0]) }), api.OK
	case "base":
		return kind(func(k *api.Kind) { k.Base = call.N[1] }), api.OK
	case "pool":
		return kind(func(k *api.Kind) { k.Pool = int(call.N[1]) }), api.OK
	}
	return nil, api.OK
}

// happen puts an event behind those of a script, or changes the last one.
func happen(s *scripts.Script, call Call) api.Errno {
	if call.Word == "heights" {
		if len(s.Events) == 0 {
			return api.ErrNone
		}
		s.Events[len(s.Events)-1].Heights = heights(call.N)
		return api.OK
	}
	x, e := event(call)
	if e != api.OK {
		return e
	}
	s.Events = append(s.Events, x)
	return api.OK
}

// event returns the event of a line.
func event(call Call) (api.Event, api.Errno) {
	n := call.N
	switch call.Word {
	case "to":
		return api.Event{Kind: api.ScrollTo, To: n[0]}, api.OK
	case "by":
		return api.Event{Kind: api.ScrollBy, To: n[0]}, api.OK
	case "resize":
		return api.Event{Kind: api.Resize, To: n[0]}, api.OK
	case "trim":
		return api.Event{Kind: api.Trim, To: n[0]}, api.OK
	case "reveal":
		return api.Event{Kind: api.Reveal, Key: uint64(n[0])}, api.OK
	case "measured":
		return api.Event{Kind: api.Measured, Heights: heights(n)}, api.OK
	case "remove":
		return batch(api.Notice{Kind: api.Remove, At: int(n[0]), Count: int(n[1])}), api.OK
	case "move":
		return batch(api.Notice{Kind: api.Move, At: int(n[0]), Count: int(n[1]), To: int(n[2])}), api.OK
	case "insert":
		l, e := items(n[1], n[2:])
		return batch(api.Notice{Kind: api.Insert, At: int(n[0]), Items: l}), e
	case "change":
		l, e := items(n[1], n[2:])
		for i := range l {
			l[i].Text = call.Text
		}
		return batch(api.Notice{Kind: api.Change, At: int(n[0]), Items: l}), e
	}
	l, e := items(n[0], n[1:]) // of reset
	return batch(api.Notice{Kind: api.Reset, Items: l}), e
}

// batch returns the event with a notice.
func batch(n api.Notice) api.Event {
	return api.Event{Kind: api.Batch, Notices: []api.Notice{n}}
}

// items returns items of a type with some keys.
func items(kind int64, keys []int64) ([]api.Item, api.Errno) {
	if kind > math.MaxUint8 {
		return nil, api.ErrRange
	}
	l := make([]api.Item, len(keys))
	for i, key := range keys {
		l[i] = api.Item{Key: uint64(key), Type: uint8(kind), Text: "item " + strconv.FormatInt(key, 10)}
	}
	return l, api.OK
}

// heights returns the heights of numbers that are taken in pairs.
func heights(n []int64) []api.Height {
	l := make([]api.Height, len(n)/2)
	for i := range l {
		l[i] = api.Height{Key: uint64(n[2*i]), Size: n[2*i+1]}
	}
	return l
}
