package htmltree_test

import (
	"maps"
	"slices"
	"strings"
	"testing"

	"htmltree/api"
	"htmltree/htmltree"
)

// hearer is a visitor that notes what it is told as items, writes into the attributes it is handed, and passes over elements of one name.
type hearer struct {
	heard []api.Item
	over  string
	also  func(name string) // is called where an element begins, if there is one
}

func (h *hearer) hear(kind int, s, t string) {
	h.heard = append(h.heard, api.Item{Kind: kind, S: s, T: t})
}

func (h *hearer) Doctype(name string) { h.hear(api.Doctype, name, "") }
func (h *hearer) Comment(text string) { h.hear(api.Comment, text, "") }
func (h *hearer) Text(text string)    { h.hear(api.Text, text, "") }
func (h *hearer) Leave(name string)   { h.hear(api.Leave, name, "") }

func (h *hearer) Enter(name string, attrs []api.Attribute) bool {
	h.hear(api.Enter, name, "")
	for _, a := range attrs {
		h.hear(api.Attr, a.Name, a.Value)
	}
	clear(attrs)
	_ = append(attrs, api.Attribute{Name: "mine"})
	if h.also != nil {
		h.also(name)
	}
	return name != h.over
}

// heardOf tells what a visitor hears that passes over elements of a name.
func heardOf(p *htmltree.Parser, over string) []api.Item {
	h := &hearer{over: over}
	p.Visit(h)
	return h.heard
}

// all takes every item, as it is.
func all(x api.Item) (api.Item, bool) { return x, true }

func TestP29Visit(t *testing.T) {
	p := closed(t, shownText)
	for range 3 {
		if l := heardOf(p, ""); !slices.Equal(l, shownItems()) {
			t.Errorf("P29: Visit tells %v, want %v", l, shownItems())
		}
	}
	if l := p.List(); !slices.Equal(l, shownItems()) {
		t.Errorf("P29: a visitor changed the tree: %v", l)
	}
}

// without tells items without what elements of a name hold, and without their ends.
func without(items []api.Item, name string) []api.Item {
	var l []api.Item
	within := 0 // how many elements are open, from one of the name on
	for _, x := range items {
		if within == 0 || within == 1 && x.Kind == api.Attr && isAttrOf(l, name) {
			l = append(l, x)
		}
		switch {
		case x.Kind == api.Enter && (within > 0 || x.S == name):
			within++
		case x.Kind == api.Leave && within > 0:
			within--
		}
	}
	return l
}

// isAttrOf: an attribute that comes now is one of an element of the name.
func isAttrOf(l []api.Item, name string) bool {
	n := len(l) - 1
	for l[n].Kind == api.Attr {
		n--
	}
	return l[n] == api.Item{Kind: api.Enter, S: name}
}

func TestP29PassedOver(t *testing.T) {
	const text = "<!doctype html><!--a--><html b=1><p c=2 d=3>e<b>f<i>g</b>h</i><p j>k<table><td l><p m>n</table></p><br o>p<!--q--></body><!--r-->"
	p := closed(t, text)
	items := p.List()
	for _, name := range strings.Fields("html head body p b i table tbody tr td br none") {
		if l, want := heardOf(p, name), without(items, name); !slices.Equal(l, want) {
			t.Errorf("P29: without %s: %v, want %v", name, l, want)
		}
	}
	want := []api.Item{{Kind: api.Doctype, S: "html"}, {Kind: api.Comment, S: "a"}, {Kind: api.Enter, S: "html"}, {Kind: api.Attr, S: "b", T: "1"}}
	if l := heardOf(p, "html"); !slices.Equal(l, want) {
		t.Errorf("P29: without html: %v, want %v", l, want)
	}
	want = []api.Item{{Kind: api.Enter, S: "html"}, {Kind: api.Enter, S: "head"}, {Kind: api.Leave, S: "head"}, {Kind: api.Enter, S: "body"},
		{Kind: api.Enter, S: "p"}, {Kind: api.Attr, S: "a"}, {Kind: api.Enter, S: "hr"}, {Kind: api.Attr, S: "c"}, {Kind: api.Leave, S: "hr"},
		{Kind: api.Text, S: "d"}, {Kind: api.Leave, S: "body"}, {Kind: api.Leave, S: "html"}}
	if l := heardOf(closed(t, "<p a>b<i>c</i><hr c>d"), "p"); !slices.Equal(l, want) {
		t.Errorf("P29: without p: %v, want %v", l, want)
	}
}

// keeper is a visitor that keeps the attributes.
type keeper struct {
	hearer
	lists [][]api.Attribute
}

func (k *keeper) Enter(_ string, attrs []api.Attribute) bool {
	k.lists = append(k.lists, attrs)
	return true
}

func TestP2AttributesAreFresh(t *testing.T) {
	p := closed(t, "<b x=1 y>a<p>c<p>d")
	first, second := &keeper{}, &keeper{}
	p.Visit(first)
	for _, l := range first.lists {
		for i := range l {
			l[i].Value = "mine"
		}
	}
	p.Visit(second)
	want := []api.Attribute{{Name: "x", Value: "1"}, {Name: "y"}}
	for _, l := range second.lists {
		if l != nil && !slices.Equal(l, want) || l != nil && len(l) == 0 {
			t.Errorf("P2: attributes are %#v, want %v or nil", l, want)
		}
	}
	if len(second.lists) != 6 || len(second.lists[3]) != 2 {
		t.Errorf("P29: Enter was told %v", second.lists)
	}
	again := closed(t, "<p><b x=1 y>a<p>c<p>d")
	lists := &keeper{}
	again.Visit(lists)
	clear(lists.lists[4])
	if n := len(lists.lists); n != 9 || !slices.Equal(lists.lists[6], want) || !slices.Equal(lists.lists[8], want) {
		t.Errorf("P2: elements that are alike share their attributes: %v", lists.lists)
	}
}

func TestP29VisitsWithinVisits(t *testing.T) {
	p := closed(t, shownText)
	other := closed(t, "x")
	within := 0
	h := &hearer{also: func(string) {
		within += len(heardOf(p, "")) + len(p.List()) + len(heardOf(other, ""))
	}}
	p.Visit(h)
	if n := len(shownItems()); !slices.Equal(h.heard, shownItems()) || within != 6*(n+n+7) {
		t.Errorf("P29: Visit tells %v, and %d within", h.heard, within)
	}
}

func TestP1NoVisitorNoFunction(t *testing.T) {
	p := closed(t, shownText)
	p.Visit(nil)
	if l := htmltree.Collect[int](p, nil); l != nil {
		t.Errorf("P1: Collect without a function = %v", l)
	}
	open := made(t, shownText, 16)
	open.Visit(nil)
	if l := htmltree.Collect[int](open, nil); l != nil {
		t.Errorf("P1: Collect without a function = %v", l)
	}
}

func TestP30Names(t *testing.T) {
	for _, c := range []struct {
		text string
		want map[string]int
	}{
		{"", map[string]int{"html": 1, "head": 1, "body": 1}},
		{"<p>a<p>b<p>c<br>", map[string]int{"html": 1, "head": 1, "body": 1, "p": 3, "br": 1}},
		{"<P><p\x00><?p><!--p-->p&lt;p>", map[string]int{"html": 1, "head": 1, "body": 1, "p": 1, "p\uFFFD": 1}},
		{"<html p><body p>", map[string]int{"html": 1, "head": 1, "body": 1}},
		{"<b>1<p>2</b>3", map[string]int{"html": 1, "head": 1, "body": 1, "b": 2, "p": 1}},
		{"<table><td>x<td>y", map[string]int{"html": 1, "head": 1, "body": 1, "table": 1, "tbody": 1, "tr": 1, "td": 2}},
		{"<!doctype html><title>p</title><hr p=q>", map[string]int{"html": 1, "head": 1, "body": 1, "title": 1, "hr": 1}},
	} {
		p := closed(t, c.text)
		for range 2 {
			m := p.Names()
			if !maps.Equal(m, c.want) {
				t.Errorf("P30: Names of %q = %v, want %v", c.text, m, c.want)
			}
			m["p"], m["mine"] = 9, 9
			delete(m, "html")
		}
	}
}

func TestP30Collect(t *testing.T) {
	p := closed(t, shownText)
	if l := htmltree.Collect(p, all); !slices.Equal(l, shownItems()) {
		t.Errorf("P30: Collect of all = %v", l)
	}
	texts := htmltree.Collect(p, func(x api.Item) (string, bool) { return x.S, x.Kind == api.Text })
	if !slices.Equal(texts, []string{"d", "e"}) {
		t.Errorf("P30: Collect of texts = %q", texts)
	}
	sizes := htmltree.Collect(p, func(x api.Item) (int, bool) { return len(x.S), x.Kind == api.Enter })
	if !slices.Equal(sizes, []int{4, 4, 4, 1, 2, 5}) {
		t.Errorf("P30: Collect of numbers = %v", sizes)
	}
	attrs := htmltree.Collect(p, func(x api.Item) (api.Attribute, bool) {
		return api.Attribute{Name: x.S, Value: x.T}, x.Kind == api.Attr
	})
	if !slices.Equal(attrs, []api.Attribute{{Name: "b", Value: "1"}, {Name: "c"}}) {
		t.Errorf("P30: Collect of attributes = %v", attrs)
	}
	zeros := htmltree.Collect(p, func(x api.Item) (any, bool) { return nil, x.Kind == api.Doctype })
	if len(zeros) != 1 || zeros[0] != nil {
		t.Errorf("P30: Collect of a nil = %v", zeros)
	}
	if l := htmltree.Collect(p, func(x api.Item) (string, bool) { return x.S, false }); l != nil {
		t.Errorf("P2, P30: Collect of nothing = %#v", l)
	}
}

// take is asked once of each item, in order, and may itself ask the parser.
func TestP30CollectAsks(t *testing.T) {
	p := closed(t, shownText)
	var asked []api.Item
	l := htmltree.Collect(p, func(x api.Item) (int, bool) {
		asked = append(asked, x)
		return len(htmltree.Collect(p, all)) + p.Names()["p"], len(asked)%2 == 0
	})
	n := len(shownItems())
	if !slices.Equal(asked, shownItems()) || !slices.Equal(l, slices.Repeat([]int{n + 1}, n/2)) {
		t.Errorf("P30: take was asked of %v, Collect = %v", asked, l)
	}
	clear(l)
	if l := htmltree.Collect(p, all); !slices.Equal(l, shownItems()) {
		t.Errorf("P30: Collect of all = %v", l)
	}
}

// Whatever the tree is, all the calls tell the same of it.
func TestP29P30TheSameOfEveryTree(t *testing.T) {
	for _, first := range []string{"<table>", "<b c=1 d>"} {
		texts(pieces(), 2, func(s string) {
			p := closed(t, first+s)
			items := p.List()
			names := map[string]int{}
			for _, x := range items {
				if x.Kind == api.Enter {
					names[x.S]++
				}
			}
			if !slices.Equal(heardOf(p, ""), items) || !slices.Equal(htmltree.Collect(p, all), items) || !maps.Equal(p.Names(), names) {
				t.Fatalf("P29, P30: of %q are told %v, %v, %v", first+s, heardOf(p, ""), htmltree.Collect(p, all), p.Names())
			}
		})
	}
}
