package build

import (
	"htmltree/api"
	"htmltree/names"
	"htmltree/tree"
)

// push: an element is open from now on.
func (b *Builder) push(e *tree.Element) {
	if b.open.Len() >= b.limits.Depth {
		b.stop(api.ErrDepth)
	}
	b.open.Push(e)
}

// current: the current element is such a one.
func (b *Builder) current(such names.Ask) bool {
	e := b.open.Last()
	return e != nil && such(e.Name)
}

// popIf pops the current element, if it is such a one.
func (b *Builder) popIf(such names.Ask) {
	if b.current(such) {
		b.open.Pop()
	}
}

// upTo pops elements until such a one has been. (Where the document has implied ends ahead of this, they would be of what is popped here anyway: it never has them end the one that is sought.)
func (b *Builder) upTo(such names.Ask) {
	for b.open.Len() > 0 {
		if such(b.open.Pop().Name) {
			return
		}
	}
}

// clearTo pops elements until such a one, or html, is current.
func (b *Builder) clearTo(such names.Ask) {
	stays := such.Or(names.Is("html"))
	for b.open.Len() > 0 && !b.current(stays) {
		b.open.Pop()
	}
}

// impliedEnds pops elements that need no end tag.
func (b *Builder) impliedEnds() {
	for b.current(b.implied) {
		b.open.Pop()
	}
}

// inScope: from the current element up such a one comes ahead of, or is, one of some bounds.
func (b *Builder) inScope(such, bounds names.Ask) bool {
	for e := range b.open.Up() {
		switch {
		case such(e.Name):
			return true
		case bounds(e.Name):
			return false
		}
	}
	return false
}

// isInScope: that very element is in scope.
func (b *Builder) isInScope(it *tree.Element) bool {
	for e := range b.open.Up() {
		switch {
		case e == it:
			return true
		case b.bounds(e.Name):
			return false
		}
	}
	return false
}

// close: if such an element is in the scope that has these bounds, elements are popped up to it. It tells whether one was.
func (b *Builder) close(such, bounds names.Ask) bool {
	if !b.inScope(such, bounds) {
		return false
	}
	b.upTo(such)
	return true
}

func (b *Builder) buttonBounds() names.Ask { return b.bounds.Or(names.Is("button")) }

func (b *Builder) itemBounds() names.Ask { return b.bounds.Or(names.Is("ul")) }

func tableBounds() names.Ask { return names.Is("html", "table") }

// closeP: a p is closed.
func (b *Builder) closeP() { b.close(names.Is("p"), b.buttonBounds()) }
