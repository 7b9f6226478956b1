// Package build: tokens become a tree, by the rules of the modes (P11 to P24).
package build

import (
	"htmltree/api"
	"htmltree/list"
	"htmltree/names"
	"htmltree/token"
	"htmltree/tree"
)

// Limits: how many elements may be open, how many entries the active list may have, how many attributes an element may be given.
type Limits struct{ Depth, Forms, Attrs int }

// Builder takes the tokens of a text, one behind the other.
type Builder struct {
	limits Limits
	asText func(of string, plain bool)
	rules  [modes]rules

	special, implied, bounds names.Ask

	doc       *tree.Element
	open      list.List[*tree.Element]
	active    list.List[*tree.Element] // formatting elements; nil is a marker
	head      *tree.Element
	form      *tree.Element // nil: FORM is none
	mode      mode
	kept      mode          // the mode that was kept in mind
	waiting   []token.Token // the characters that were kept in mind
	fostering bool
	quirks    bool
	at        int  // where the token at work begins
	behind    bool // the token at work is the first behind <pre> or <textarea>
}

// New makes a builder of an empty document. asText is called where the text of an element begins that is read otherwise than data (P10).
func New(limits Limits, asText func(of string, plain bool)) *Builder {
	c := names.NewClasses()
	b := &Builder{limits: limits, asText: asText, doc: &tree.Element{}}
	b.special, b.implied, b.bounds = c.Are(names.Special), c.Are(names.Implied), c.Are(names.Bounds)
	b.rules = [modes]rules{
		initial:         b.initialRules(),
		beforeHTML:      b.beforeHTMLRules(),
		beforeHead:      b.beforeHeadRules(),
		inHead:          b.inHeadRules(),
		afterHead:       b.afterHeadRules(),
		inText:          b.inTextRules(),
		inBody:          b.inBodyRules(),
		inTable:         b.inTableRules(),
		inTableText:     b.inTableTextRules(),
		inCaption:       b.inCaptionRules(),
		inColumnGroup:   b.inColumnGroupRules(),
		inTableBody:     b.inTableBodyRules(),
		inRow:           b.inRowRules(),
		inCell:          b.inCellRules(),
		inSelect:        b.inSelectRules(),
		inSelectInTable: b.inSelectInTableRules(),
		afterBody:       b.afterBodyRules(),
		afterAfterBody:  b.afterAfterBodyRules(),
	}
	return b
}

// Document is what was built.
func (b *Builder) Document() *tree.Element { return b.doc }

// Take takes a token. It panics with an *api.Stop where a limit is passed.
func (b *Builder) Take(t token.Token) {
	if _, lost := t.(token.Lost); lost {
		return
	}
	first := b.behind
	b.behind = false
	b.at, _ = t.Bytes()
	if first && charsOf(t) == "\n" {
		return
	}
	b.take(t)
}

// take takes a token by the rules of the mode.
func (b *Builder) take(t token.Token) { b.takeAs(b.mode, t) }

// takeAs takes a token by the rules of a mode, whichever the mode is.
func (b *Builder) takeAs(m mode, t token.Token) { b.rules[m].of(t)(t) }

// asIn makes the rule that the rules of a mode hold.
func (b *Builder) asIn(m mode) rule {
	return func(t token.Token) { b.takeAs(m, t) }
}

// stop throws a limit that was passed.
func (b *Builder) stop(e api.Errno) { panic(&api.Stop{Err: e, At: b.at}) }

// insert inserts an element.
func (b *Builder) insert(e *tree.Element) {
	b.place().Put(e)
	b.push(e)
}

// insertNamed inserts an element without attributes.
func (b *Builder) insertNamed(name string) { b.insert(&tree.Element{Name: name}) }

// insertTag inserts the element of a start tag.
func (b *Builder) insertTag(t token.Token) {
	tag := tagOf(t)
	b.insert(&tree.Element{Name: tag.Name, Attrs: tag.Attrs})
}

// insertVoid inserts the element of a start tag, and pops it.
func (b *Builder) insertVoid(t token.Token) {
	b.insertTag(t)
	b.open.Pop()
}

func (b *Builder) insertChar(t token.Token) { b.place().PutChars(charsOf(t)) }

// commentAt makes the rule that a comment is put at a place; which place that is, is asked when the comment comes.
func (b *Builder) commentAt(place func() tree.Place) rule {
	return func(t token.Token) {
		if c, ok := t.(token.Comment); ok {
			place().Put(&tree.Comment{Text: c.Text})
		}
	}
}

// give gives an element the attributes of a tag that it has not.
func (b *Builder) give(e *tree.Element, t token.Token) {
	for _, a := range tagOf(t).Attrs {
		if e.Has(a.Name) {
			continue
		}
		if len(e.Attrs) >= b.limits.Attrs {
			b.stop(api.ErrAttr)
		}
		e.Attrs = append(e.Attrs, a)
	}
}
