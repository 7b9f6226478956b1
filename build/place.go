package build

import (
	"htmltree/names"
	"htmltree/token"
	"htmltree/tree"
)

// Where things are put, and FOSTERING (P11).

// place is the place for the current element.
func (b *Builder) place() tree.Place { return b.placeFor(b.open.Last()) }

// placeFor is the place for an element.
func (b *Builder) placeFor(e *tree.Element) tree.Place {
	if b.fostering && tableParts()(e.Name) {
		return b.fosterPlace()
	}
	return e.End()
}

// tableParts are the elements in which nothing but a table's own parts has a place.
func tableParts() names.Ask { return names.Is("table", "tbody", "tfoot", "thead", "tr") }

// fosterPlace is the place for what has none in a table: ahead of the table that was opened last.
func (b *Builder) fosterPlace() tree.Place {
	first := b.open.At(0)
	for e := range b.open.Up() {
		if e.Name != "table" || e == first {
			continue
		}
		if front, ok := e.Front(); ok {
			return front
		}
		return b.open.RightAhead(e).End()
	}
	return first.End()
}

// foster takes a token as in body, with fostering on.
func (b *Builder) foster(t token.Token) {
	b.fostering = true
	b.takeAs(inBody, t)
	b.fostering = false
}
