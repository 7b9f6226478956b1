package build

import "htmltree/tree"

// The adoption agency (P19): formatting elements that end within others.

const (
	rounds = 8 // in which one end tag is at work, at the most
	remade = 3 // elements ahead of BLOCK that one round may make anew, at the most
)

// adopt is the adoption agency for a name.
func (b *Builder) adopt(name string) {
	if e := b.open.Last(); e.Name == name && !b.active.Has(e) {
		b.open.Pop()
		return
	}
	for range rounds {
		if !b.adoptOnce(name) {
			return
		}
	}
}

// adoptOnce is one round; it tells whether another may follow.
func (b *Builder) adoptOnce(name string) bool {
	f := b.lastActive(name)
	switch {
	case f == nil:
		b.endNamed(name)
		return false
	case !b.open.Has(f):
		b.active.Remove(f)
		return false
	case !b.isInScope(f):
		return false
	}
	block := b.blockBehind(f)
	if block == nil {
		b.open.PopTo(f)
		b.active.Remove(f)
		return false
	}
	b.moveOut(f, block)
	return true
}

// blockBehind tells the first special element that is open behind f; nil, if there is none.
func (b *Builder) blockBehind(f *tree.Element) *tree.Element {
	var block *tree.Element
	for e := range b.open.Up() {
		if e == f {
			break
		}
		if b.special(e.Name) {
			block = e
		}
	}
	return block
}

// moveOut: f ends ahead of block, and one like it begins anew within.
func (b *Builder) moveOut(f, block *tree.Element) {
	last, mark := b.remake(f, block)
	last.TakeOut()
	b.placeFor(b.open.RightAhead(f)).Put(last)

	like := f.Another()
	block.HandOver(like)
	block.End().Put(like)
	b.active.PutBehind(mark, like)
	b.active.Remove(f)
	b.open.Remove(f)
	b.open.PutBehind(block, like)
}

// remake makes what is open between f and block anew, around block, as far as it is active. It tells the outermost of these, and behind which entry of the active list the one like f belongs: behind f itself, which goes, or behind the innermost of these.
func (b *Builder) remake(f, block *tree.Element) (last, mark *tree.Element) {
	last, mark = block, f
	number := 0
	for e := range b.open.Ahead(block) {
		if e == f {
			break
		}
		number++
		if number > remade {
			b.active.Remove(e)
		}
		if !b.active.Has(e) {
			b.open.Remove(e)
			continue
		}
		like := e.Another()
		b.open.Replace(e, like)
		b.active.Replace(e, like)
		if last == block {
			mark = like
		}
		last.TakeOut()
		like.End().Put(last)
		last = like
	}
	return last, mark
}
