package tree

import (
	"slices"
	"testing"

	"htmltree/api"
)

// small makes <!DOCTYPE d><e a="1" b="2">t<br><!--c--></e>u.
func small() *Element {
	doc := &Element{}
	doc.End().Put(&Doctype{Name: "d"})
	e := &Element{Name: "e", Attrs: []api.Attribute{{Name: "a", Value: "1"}, {Name: "b", Value: "2"}}}
	doc.End().Put(e)
	e.End().PutChars("t")
	e.End().Put(&Element{Name: "br"})
	e.End().Put(&Comment{Text: "c"})
	doc.End().PutChars("u")
	return doc
}

func TestPlaces(t *testing.T) {
	e := &Element{Name: "e"}
	e.End().PutChars("a")
	e.End().PutChars("b")
	e.End().Put(&Element{Name: "x"})
	e.End().PutChars("c")
	e.End().PutChars("d")
	Place{e, 1}.PutChars("B")
	Place{e, 0}.PutChars("A")
	Place{e, 3}.Put(&Comment{Text: "k"})
	Place{e, 4}.PutChars("C")
	doc := &Element{}
	doc.End().Put(e)
	want := []api.Item{{Kind: api.Enter, S: "e"}, {Kind: api.Text, S: "A"}, {Kind: api.Text, S: "abB"}, {Kind: api.Enter, S: "x"}, {Kind: api.Leave, S: "x"},
		{Kind: api.Comment, S: "k"}, {Kind: api.Text, S: "C"}, {Kind: api.Text, S: "cd"}, {Kind: api.Leave, S: "e"}}
	if got := slices.Collect(doc.Items); !slices.Equal(got, want) {
		t.Errorf("P11: items are %v, want %v", got, want)
	}
}

func TestHas(t *testing.T) {
	e := &Element{Attrs: []api.Attribute{{Name: "a"}, {Name: "b", Value: "c"}}}
	for name, want := range map[string]bool{"a": true, "b": true, "c": false, "": false, "A": false} {
		if e.Has(name) != want {
			t.Errorf("Has(%q) = %v", name, !want)
		}
	}
}

func TestIsLike(t *testing.T) {
	of := func(name string, attrs ...api.Attribute) *Element { return &Element{Name: name, Attrs: attrs} }
	x, y, z := api.Attribute{Name: "x", Value: "1"}, api.Attribute{Name: "y"}, api.Attribute{Name: "x", Value: "2"}
	for _, c := range []struct {
		a, b *Element
		want bool
	}{
		{of("b"), of("b"), true},
		{of("b"), of("i"), false},
		{of("b", x), of("b", x), true},
		{of("b", x), of("b"), false},
		{of("b", x), of("b", z), false},
		{of("b", x), of("b", y), false},
		{of("b", x, y), of("b", y, x), true},
		{of("b", x, y), of("b", z, y), false},
		{of("b", x, y), of("b", x), false},
		{of("b", x, y), of("i", x, y), false},
	} {
		if c.a.IsLike(c.b) != c.want || c.b.IsLike(c.a) != c.want {
			t.Errorf("P17: %v is like %v: want %v", c.a, c.b, c.want)
		}
	}
}

func TestAnother(t *testing.T) {
	e := small().children[1].(*Element)
	a := e.Another()
	if a == e || !a.IsLike(e) || len(a.children) != 0 {
		t.Errorf("P17: another %v is %v", e, a)
	}
	if _, ok := a.Front(); ok {
		t.Errorf("P17: another is somewhere")
	}
}

func TestFront(t *testing.T) {
	doc := small()
	e := doc.children[1].(*Element)
	front, ok := e.Front()
	if !ok {
		t.Fatalf("P11: no place ahead of a child")
	}
	front.PutChars("x")
	front, _ = e.Front()
	front.PutChars("y")
	front.Put(&Element{Name: "hr"})
	if got, want := doc.Written(), `<!DOCTYPE d>xy<hr><e a="1" b="2">t<br><!--c--></e>u`; got != want {
		t.Errorf("P11: written is %q, want %q", got, want)
	}
	if _, ok := doc.Front(); ok {
		t.Errorf("P11: there is a place ahead of what has no parent")
	}
}

func TestTakeOut(t *testing.T) {
	doc := small()
	e := doc.children[1].(*Element)
	br := e.children[1].(*Element)
	br.TakeOut()
	br.TakeOut()
	doc.End().Put(br)
	e.TakeOut()
	br.End().Put(e)
	if _, ok := e.Front(); !ok || doc.Written() != "<!DOCTYPE d>u<br>" || br.Written() != `<e a="1" b="2">t<!--c--></e>` {
		t.Errorf("P19: written are %q, %q", doc.Written(), br.Written())
	}
	doc.TakeOut()
}

func TestHandOver(t *testing.T) {
	doc := small()
	e := doc.children[1].(*Element)
	br := e.children[1].(*Element)
	to := &Element{Name: "x"}
	to.End().PutChars("s")
	e.HandOver(to)
	e.End().Put(to)
	if got, want := doc.Written(), `<!DOCTYPE d><e a="1" b="2"><x>st<br><!--c--></x></e>u`; got != want {
		t.Errorf("P19: written is %q, want %q", got, want)
	}
	if l := slices.Collect(to.Items); len(l) != 5 || l[0].S != "s" || l[1].S != "t" {
		t.Errorf("P27: texts that came to lie side by side are told as %v", l)
	}
	br.TakeOut()
	if got, want := to.Written(), "st<!--c-->"; got != want {
		t.Errorf("P19: written is %q, want %q", got, want)
	}
}

func TestItems(t *testing.T) {
	doc := small()
	want := []api.Item{{Kind: api.Doctype, S: "d"}, {Kind: api.Enter, S: "e"}, {Kind: api.Attr, S: "a", T: "1"}, {Kind: api.Attr, S: "b", T: "2"}, {Kind: api.Text, S: "t"},
		{Kind: api.Enter, S: "br"}, {Kind: api.Leave, S: "br"}, {Kind: api.Comment, S: "c"}, {Kind: api.Leave, S: "e"}, {Kind: api.Text, S: "u"}}
	if got := slices.Collect(doc.Items); !slices.Equal(got, want) {
		t.Errorf("P27: items are %v, want %v", got, want)
	}
	for n := range len(want) {
		calls := 0
		doc.Items(func(api.Item) bool {
			calls++
			return calls <= n
		})
		if calls != n+1 {
			t.Errorf("P27: yield was called %d times, and said false the %d. time", calls, n+1)
		}
	}
}

// guest notes what it is told, changes its attributes, and passes over elements of one name.
type guest struct {
	heard []string
	over  string
}

func (g *guest) hear(s string)       { g.heard = append(g.heard, s) }
func (g *guest) Doctype(name string) { g.hear("!" + name) }
func (g *guest) Comment(text string) { g.hear("-" + text) }
func (g *guest) Text(text string)    { g.hear(text) }
func (g *guest) Leave(name string)   { g.hear("/" + name) }
func (g *guest) Enter(name string, attrs []api.Attribute) bool {
	for i, a := range attrs {
		name += " " + a.Name + a.Value
		attrs[i] = api.Attribute{Name: "mine"}
	}
	g.hear(name)
	return g.over == "" || name[:1] != g.over
}

func TestVisit(t *testing.T) {
	doc := small()
	for _, c := range []struct {
		over string
		want []string
	}{
		{"", []string{"!d", "e a1 b2", "t", "br", "/br", "-c", "/e", "u"}},
		{"b", []string{"!d", "e a1 b2", "t", "br", "-c", "/e", "u"}},
		{"e", []string{"!d", "e a1 b2", "u"}},
	} {
		g := &guest{over: c.over}
		doc.VisitChildren(g)
		if !slices.Equal(g.heard, c.want) {
			t.Errorf("a visitor that passes over %q hears %q, want %q", c.over, g.heard, c.want)
		}
	}
}

func TestWritten(t *testing.T) {
	doc := small()
	const text = "&<>\"'\u00a0\xc2\xa0\xa0&amp;"
	style := &Element{Name: "style"}
	style.End().PutChars(text)
	doc.End().Put(style)
	doc.End().Put(&Element{Name: "x", Attrs: []api.Attribute{{Name: "&<\"", Value: text}, {Name: "n"}}})
	doc.End().PutChars(text)
	doc.End().Put(&Comment{Text: text})
	doc.End().Put(&Doctype{})
	want := `<!DOCTYPE d><e a="1" b="2">t<br><!--c--></e>u<style>` + text + `</style>` +
		`<x &<"="&amp;<>&quot;'&nbsp;&nbsp;` + "\xa0" + `&amp;amp;" n=""></x>` +
		`&amp;&lt;&gt;"'&nbsp;&nbsp;` + "\xa0" + `&amp;amp;` + `<!--` + text + `--><!DOCTYPE >`
	for range 2 {
		if got := doc.Written(); got != want {
			t.Errorf("P28: written is %q, want %q", got, want)
		}
	}
	if got := (&Element{Name: "p"}).Written(); got != "" {
		t.Errorf("P28: nothing is written as %q", got)
	}
}

func TestVoidElementsHaveNoEnd(t *testing.T) {
	for _, c := range []struct{ name, want string }{
		{"br", "<br>"}, {"hr", "<hr>"}, {"img", "<img>"}, {"input", "<input>"}, {"meta", "<meta>"}, {"col", "<col>"},
		{"p", "<p></p>"}, {"style", "<style></style>"}, {"area", "<area></area>"}, {"colgroup", "<colgroup></colgroup>"},
	} {
		doc := &Element{}
		doc.End().Put(&Element{Name: c.name})
		doc.End().PutChars("<")
		if got := doc.Written(); got != c.want+"&lt;" {
			t.Errorf("P28: %s is written %q", c.name, got)
		}
	}
}
