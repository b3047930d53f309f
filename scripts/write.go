package scripts

import (
	"strconv"
	"strings"

	"paternoster/api"
)

// word returns the word of a kind of events; none for what is no kind.
func word(kind uint8) string {
	words := [...]string{
		api.ScrollTo: "scrollto", api.ScrollBy: "scrollby", api.Reveal: "reveal", api.Resize: "resize",
		api.Batch: "batch", api.Measured: "measured", api.Trim: "trim",
	}
	if int(kind) >= len(words) {
		return ""
	}
	return words[kind]
}

// put writes a line of a word and numbers.
func put(out *strings.Builder, word string, numbers ...int64) {
	out.WriteString(word)
	for _, n := range numbers {
		out.WriteString(" " + strconv.FormatInt(n, 10))
	}
	out.WriteString("\n")
}

// writeConfig writes the lines of a configuration.
func writeConfig(out *strings.Builder, c api.Config) {
	put(out, "config", c.View, int64(c.Over), c.Least, int64(c.Cap), int64(c.Arena), int64(c.Flaw))
	for _, k := range c.Kinds {
		sticky := " plain\n"
		if k.Sticky {
			sticky = " sticky\n"
		}
		out.WriteString("kind " + strconv.FormatInt(k.Base, 10) + " " + strconv.Itoa(k.Pool) + sticky)
		writePart(out, k.Template)
	}
}

// writePart writes the lines of a part.
func writePart(out *strings.Builder, p api.Part) {
	switch p.Kind {
	case api.Words:
		out.WriteString("words " + p.Text + "\n")
		return
	case api.Field:
		out.WriteString("field\n")
		return
	case api.Number:
		out.WriteString("number\n")
		return
	case api.Each:
		out.WriteString("each " + p.Tag + "\n")
	default:
		key := p.Key
		if key == "" {
			key = "-"
		}
		out.WriteString("element " + p.Tag + " " + key + "\n")
	}
	for _, s := range p.Slots {
		out.WriteString("slot " + s.Name + " " + strconv.Itoa(int(s.From)))
		if s.From == 0 {
			out.WriteString(" " + s.Value)
		}
		out.WriteString("\n")
	}
	for _, below := range p.Parts {
		writePart(out, below)
	}
	out.WriteString("end\n")
}

// writeEvent returns the lines of an event, of which those of its notices and its
// heights are given.
func writeEvent(x api.Event, notices, heights string) string {
	var out strings.Builder
	switch name := word(x.Kind); x.Kind {
	case api.Reveal:
		out.WriteString(name + " " + strconv.FormatUint(x.Key, 10) + "\n")
	case api.Batch:
		put(&out, name, int64(strings.Count(notices, "\n")))
		out.WriteString(notices)
	case api.Measured:
		put(&out, name)
	default:
		put(&out, name, x.To)
	}
	if len(x.Heights) > 0 {
		put(&out, "heights", int64(len(x.Heights)))
		out.WriteString(heights)
	}
	return out.String()
}
