package build

import (
	"iter"

	"htmltree/api"
	"htmltree/names"
	"htmltree/token"
	"htmltree/tree"
)

// The active list (P17), and what formatting elements and objects do with it (P18).

// reconstruct: formatting elements that were ended by others' ends go on.
func (b *Builder) reconstruct() {
	n := b.active.Len()
	for n > 0 && !b.isMarkerOrOpen(b.active.At(n-1)) {
		n--
	}
	for ; n < b.active.Len(); n++ {
		old := b.active.At(n)
		b.insert(old.Another())
		b.active.Replace(old, b.open.Last())
	}
}

func (b *Builder) isMarkerOrOpen(e *tree.Element) bool { return e == nil || b.open.Has(e) }

// behindMarker goes over the active elements behind the last marker, from the last to the first.
func (b *Builder) behindMarker() iter.Seq[*tree.Element] {
	return func(yield func(*tree.Element) bool) {
		for e := range b.active.Up() {
			if e == nil || !yield(e) {
				return
			}
		}
	}
}

// lastActive tells the last active element of a name behind the last marker; nil, if there is none.
func (b *Builder) lastActive(name string) *tree.Element {
	for e := range b.behindMarker() {
		if e.Name == name {
			return e
		}
	}
	return nil
}

// add: an element is active from now on. Of four that are alike the first goes.
func (b *Builder) add(e *tree.Element) {
	var first *tree.Element
	alike := 0
	for old := range b.behindMarker() {
		if old.IsLike(e) {
			first = old
			alike++
		}
	}
	if alike >= 3 {
		b.active.Remove(first)
	}
	b.addEntry(e)
}

func (b *Builder) addMarker() { b.addEntry(nil) }

func (b *Builder) addEntry(e *tree.Element) {
	if b.active.Len() >= b.limits.Forms {
		b.stop(api.ErrForm)
	}
	b.active.Push(e)
}

func (b *Builder) unmark() { b.active.PopTo(nil) }

// startFormatting is the rule for b and i, and what comes last for a and nobr.
func (b *Builder) startFormatting(t token.Token) {
	b.startOther(t)
	b.add(b.open.Last())
}

func (b *Builder) startLink(t token.Token) {
	if a := b.lastActive("a"); a != nil {
		b.adopt("a")
		b.active.Remove(a)
		b.open.Remove(a)
	}
	b.startFormatting(t)
}

func (b *Builder) startNobr(t token.Token) {
	b.reconstruct()
	if b.inScope(names.Is("nobr"), b.bounds) {
		b.adopt("nobr")
	}
	b.startFormatting(t)
}

func (b *Builder) endFormatting(t token.Token) { b.adopt(tagOf(t).Name) }

func (b *Builder) startObject(t token.Token) {
	b.startOther(t)
	b.addMarker()
}

func (b *Builder) endObject(token.Token) {
	if b.close(names.Is("object"), b.bounds) {
		b.unmark()
	}
}
