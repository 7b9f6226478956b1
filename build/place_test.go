package build

import (
	"testing"

	"htmltree/tree"
)

// opened makes a builder that fosters, with such elements open. They are nowhere.
func opened(names ...string) (*Builder, []*tree.Element) {
	b := New(Limits{Depth: 64, Forms: 32, Attrs: 16}, nil)
	b.fostering = true
	var l []*tree.Element
	for _, name := range names {
		e := &tree.Element{Name: name}
		b.open.Push(e)
		l = append(l, e)
	}
	return b, l
}

// Tables that no text can bring about: without a parent, or without a table open.
func TestP11FosterPlaces(t *testing.T) {
	for _, c := range []struct {
		open []string
		want int // the number of the open element at whose end the place is
	}{
		{[]string{"html", "body", "table"}, 1},
		{[]string{"html", "body", "table", "tbody", "tr"}, 1},
		{[]string{"html", "table", "td", "table", "tr"}, 2},
		{[]string{"html", "body", "tr"}, 0},
		{[]string{"html", "tbody"}, 0},
		{[]string{"table", "body", "tr"}, 0},
		{[]string{"table"}, 0},
		{[]string{"html", "table", "span"}, 2},
	} {
		b, l := opened(c.open...)
		b.place().PutChars("x")
		for n, e := range l {
			if got := e.Written(); (got == "x") != (n == c.want) {
				t.Errorf("P11: with %q open, %q number %d holds %q", c.open, e.Name, n, got)
			}
		}
	}
}

func TestP11FosterPlaceAheadOfATable(t *testing.T) {
	b, l := opened("html", "div", "span", "table", "tr")
	div, table := l[1], l[3]
	div.End().PutChars("a")
	div.End().Put(table)
	div.End().PutChars("b")
	b.place().PutChars("x")
	b.place().Put(&tree.Element{Name: "br"})
	if got, want := div.Written(), "ax<br><table></table>b"; got != want {
		t.Errorf("P11: the table's parent holds %q, want %q", got, want)
	}
	b.fostering = false
	b.place().PutChars("y")
	if got := l[4].Written(); got != "y" {
		t.Errorf("P11: without fostering tr holds %q", got)
	}
}
