package consoles

import (
	"strconv"
	"strings"

	"paternoster/api"
	"paternoster/audits"
	"paternoster/costs"
	"paternoster/engines"
	"paternoster/mutants"
	"paternoster/reports"
	"paternoster/scripts"
	"paternoster/snapshots"
)

// question returns the function that answers a line that asks, nil for other lines.
func (c *Console) question(word string) func() (string, api.Errno) {
	switch word {
	case "text":
		return c.text
	case "cost":
		return c.cost
	case "audit":
		return c.audit
	case "compare":
		return c.compare
	case "caught":
		return c.caught
	case "report":
		return c.report
	case "bound":
		return c.bound
	case "answers":
		return c.answers
	case "list", "offset", "rows", "lines", "seen", "counts", "dom", "pools":
		return func() (string, api.Errno) {
			g, _, e := scripts.Run(c.script)
			if e != api.OK {
				return "", e
			}
			return look(g, word)
		}
	}
	return nil
}

// look answers a line that asks about the run.
func look(g *engines.Engine, word string) (string, api.Errno) {
	switch word {
	case "offset":
		return strconv.FormatInt(g.Offset(), 10), api.OK
	case "lines":
		return lines(g)
	case "seen":
		x, e := snapshots.Seen(g)
		if e != api.OK {
			return "", e
		}
		text, e := snapshots.Text(x)
		return bars(text), e
	case "counts":
		n := g.Counts()
		return pairs("rounds rebound made dropped", n.Rounds, n.Rebound, n.Made, n.Dropped), api.OK
	case "dom":
		n := g.Dom().Counters()
		return pairs("live created freed inserted removed moved wrote placed",
			n.Live, n.Created, n.Freed, n.Inserted, n.Removed, n.Moved, n.Wrote, n.Placed), api.OK
	case "pools":
		var l []int
		for _, rows := range g.Pools().Rows {
			l = append(l, len(rows))
		}
		return numbers(l...), api.OK
	case "rows":
		var l []string
		for _, r := range g.Rows() {
			l = append(l, strconv.FormatUint(r.Key, 10))
		}
		return words(l...), api.OK
	}
	var l []string // list
	for _, x := range g.List().Entries {
		entry := strconv.FormatUint(x.Item.Key, 10) + ":" + strconv.FormatInt(x.Size, 10)
		if !x.Known {
			entry += "?"
		}
		l = append(l, entry)
	}
	return words(l...), api.OK
}

// lines returns the lines of an engine.
func lines(g *engines.Engine) (string, api.Errno) {
	l, e := snapshots.Lines(g)
	if e != api.OK {
		return "", e
	}
	if len(l) == 0 {
		return words(), api.OK
	}
	out := make([]string, len(l))
	for i, x := range l {
		out[i] = words(strconv.FormatUint(x.Key, 10), strconv.FormatInt(x.Top, 10), strconv.FormatInt(x.Size, 10), strconv.Itoa(x.Nodes))
		if x.Pinned {
			out[i] = words(out[i], "pinned")
		}
	}
	return strings.Join(out, "|"), api.OK
}

func (c *Console) text() (string, api.Errno) {
	text, e := scripts.Text(c.script)
	return bars(text), e
}

func (c *Console) answers() (string, api.Errno) {
	_, answers, e := scripts.Run(c.script)
	if e != api.OK {
		return "", e
	}
	l := make([]int, len(answers))
	for i, answer := range answers {
		l[i] = int(answer)
	}
	return numbers(l...), api.OK
}

// cost returns what the last event costs behind all others.
func (c *Console) cost() (string, api.Errno) {
	last := len(c.script.Events) - 1
	if last < 0 {
		return "", api.ErrNone
	}
	before, e := scripts.Cut(c.script, last)
	if e != api.OK {
		return "", e
	}
	g, _, e := scripts.Run(before)
	if e != api.OK {
		return "", e
	}
	n, e := costs.Of(g, c.script.Events[last])
	if e != api.OK {
		return "", e
	}
	return pairs("created freed inserted removed moved wrote placed rounds rebound made dropped",
		n.Created, n.Freed, n.Inserted, n.Removed, n.Moved, n.Wrote, n.Placed, n.Rounds, n.Rebound, n.Made, n.Dropped), api.OK
}

func (c *Console) audit() (string, api.Errno) {
	at, rules, e := audits.Broken(c.script.Config, c.script.Events)
	if e != api.OK {
		return words(), api.OK
	}
	l := make([]int, len(rules))
	for i, rule := range rules {
		l[i] = int(rule)
	}
	return words(numbers(at)+":", numbers(l...)), api.OK
}

func (c *Console) compare() (string, api.Errno) {
	f, e := audits.Compare(c.script.Config, c.script.Events)
	if e != api.OK {
		return "same", api.OK
	}
	return words(numbers(f.At), f.What), api.OK
}

func (c *Console) caught() (string, api.Errno) {
	flaws, e := mutants.Caught(c.script)
	if e != api.OK {
		return "", e
	}
	l := make([]int, len(flaws))
	for i, flaw := range flaws {
		l[i] = int(flaw)
	}
	return numbers(l...), api.OK
}

func (c *Console) report() (string, api.Errno) {
	r, e := reports.Of(c.script)
	if e != api.OK {
		return "", e
	}
	text, e := reports.Text(r)
	return bars(text), e
}

func (c *Console) bound() (string, api.Errno) {
	rows, e := costs.Rows(c.script.Config, c.script.Config.View)
	if e != api.OK {
		return "", e
	}
	live, e := costs.Live(c.script.Config, c.script.Config.View)
	return pairs("rows live", int(rows), int(live)), e
}
