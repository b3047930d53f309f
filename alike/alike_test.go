package alike_test

import (
	"testing"

	"paternoster/alike"
	"paternoster/api"
	"paternoster/lists"
)

func TestTrees(t *testing.T) {
	tree := func() api.Node {
		return api.Node{Kind: 9, Tag: "T", Attrs: []api.Attr{{Name: "a"}}, Children: []api.Node{{Text: "x"}}}
	}
	a := tree()
	if !alike.Trees(a, alike.CopyTree(a)) || !alike.Trees(api.Node{}, api.Node{Attrs: []api.Attr{}, Children: []api.Node{}}) {
		t.Error("equal trees")
	}
	for i, change := range []func(n *api.Node){
		func(n *api.Node) { n.Kind++ }, func(n *api.Node) { n.Tag = "" }, func(n *api.Node) { n.Key = "k" }, func(n *api.Node) { n.Text = "t" },
		func(n *api.Node) { n.Attrs[0].Value = "v" }, func(n *api.Node) { n.Attrs = nil }, func(n *api.Node) { n.Children[0].Text = "" }, func(n *api.Node) { n.Children = nil },
	} {
		b := alike.CopyTree(a)
		change(&b)
		if alike.Trees(a, b) || !alike.Trees(a, tree()) {
			t.Error("another tree", i)
		}
	}
}

func TestConfigs(t *testing.T) {
	config := func() api.Config {
		part := api.Part{Kind: 7, Slots: []api.Slot{{Name: "s"}}, Parts: []api.Part{{Text: "x"}}}
		return api.Config{View: 1, Kinds: []api.Kind{{Template: part, Base: 3}}}
	}
	a := config()
	for i, change := range []func(c *api.Config){
		func(c *api.Config) { c.View++ }, func(c *api.Config) { c.Over++ }, func(c *api.Config) { c.Least++ }, func(c *api.Config) { c.Cap++ }, func(c *api.Config) { c.Arena++ }, func(c *api.Config) { c.Flaw++ },
		func(c *api.Config) { c.Kinds = nil }, func(c *api.Config) { c.Kinds[0].Base++ }, func(c *api.Config) { c.Kinds[0].Sticky = true }, func(c *api.Config) { c.Kinds[0].Pool++ },
		func(c *api.Config) { c.Kinds[0].Template.Kind++ }, func(c *api.Config) { c.Kinds[0].Template.Tag = "t" }, func(c *api.Config) { c.Kinds[0].Template.Key = "k" }, func(c *api.Config) { c.Kinds[0].Template.Text = "t" },
		func(c *api.Config) { c.Kinds[0].Template.Slots[0].From++ }, func(c *api.Config) { c.Kinds[0].Template.Parts[0].Text = "" }, func(c *api.Config) { c.Kinds[0].Template.Parts = nil },
	} {
		b := alike.CopyConfig(a)
		if !alike.Configs(a, b) {
			t.Error("equal configurations")
		}
		change(&b)
		if alike.Configs(a, b) || !alike.Configs(a, config()) {
			t.Error("another configuration", i)
		}
	}
}

func TestCopyList(t *testing.T) {
	a := lists.List{Entries: []lists.Entry{{Item: api.Item{Key: 1, Marks: []string{"m"}}, Size: 3}, {Known: true}}}
	b := alike.CopyList(a)
	if !lists.Same(a, b) {
		t.Error("equal lists")
	}
	b.Entries[0].Item.Marks[0], b.Entries[1].Size = "n", 9
	if a.Entries[0].Item.Marks[0] != "m" || a.Entries[1].Size != 0 {
		t.Error("shared memory")
	}
}

func TestCopyEvents(t *testing.T) {
	a := []api.Event{{Kind: 5, Notices: []api.Notice{{Items: []api.Item{{Marks: []string{"m"}}}}}, Heights: []api.Height{{Key: 1}}}}
	b := alike.CopyEvents(a)
	if b[0].Kind != 5 || b[0].Notices[0].Items[0].Marks[0] != "m" || b[0].Heights[0].Key != 1 {
		t.Error("equal events")
	}
	b[0].Notices[0].Items[0].Marks[0], b[0].Heights[0].Key, b[0].Kind = "n", 2, 1
	if a[0].Notices[0].Items[0].Marks[0] != "m" || a[0].Heights[0].Key != 1 || a[0].Kind != 5 {
		t.Error("shared memory")
	}
}
