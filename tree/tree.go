// Package tree: the nodes of a document, and what is told of them (P11, P27 to P29).
package tree

import (
	"slices"

	"htmltree/api"
)

// Node is an element, a text, a comment or a doctype.
type Node interface {
	// Visit tells v the node, and what it holds.
	Visit(v api.Visitor)
}

// Element has attributes and children. (The document itself is one without a name, of which the children alone are told.)
type Element struct {
	Name     string
	Attrs    []api.Attribute
	parent   *Element
	children []Node
}

// Text is characters that came to lie together.
type Text struct{ Chars string }

// Comment is a comment.
type Comment struct{ Text string }

// Doctype is a doctype.
type Doctype struct{ Name string }

// Visit tells the element, if v takes it with what it holds.
func (e *Element) Visit(v api.Visitor) {
	if v.Enter(e.Name, slices.Clone(e.Attrs)) {
		e.VisitChildren(v)
		v.Leave(e.Name)
	}
}

// VisitChildren tells what the element holds.
func (e *Element) VisitChildren(v api.Visitor) {
	for _, n := range e.children {
		n.Visit(v)
	}
}

// Visit tells the text.
func (t *Text) Visit(v api.Visitor) { v.Text(t.Chars) }

// Visit tells the comment.
func (c *Comment) Visit(v api.Visitor) { v.Comment(c.Text) }

// Visit tells the doctype.
func (d *Doctype) Visit(v api.Visitor) { v.Doctype(d.Name) }

// Has: the element has an attribute of the name.
func (e *Element) Has(name string) bool {
	return slices.ContainsFunc(e.Attrs, func(a api.Attribute) bool { return a.Name == name })
}

// IsLike: the elements have the same name and attributes; in which order does not count.
func (e *Element) IsLike(other *Element) bool {
	return e.Name == other.Name && len(e.Attrs) == len(other.Attrs) &&
		!slices.ContainsFunc(e.Attrs, func(a api.Attribute) bool { return !slices.Contains(other.Attrs, a) })
}

// Another makes an element like this one, that holds nothing and is nowhere.
func (e *Element) Another() *Element { return &Element{Name: e.Name, Attrs: e.Attrs} }

// Place is a place among an element's children: ahead of the one of that number, or behind all.
type Place struct {
	in *Element
	at int
}

// End is the place behind all that the element holds.
func (e *Element) End() Place { return Place{e, len(e.children)} }

// Front is the place right ahead of the element, if it has a parent.
func (e *Element) Front() (Place, bool) {
	if e.parent == nil {
		return Place{}, false
	}
	return Place{e.parent, e.parent.indexOf(e)}, true
}

func (e *Element) indexOf(child *Element) int {
	return slices.IndexFunc(e.children, func(n Node) bool { return n == Node(child) })
}

// TakeOut takes the element away from where it is.
func (e *Element) TakeOut() {
	if e.parent != nil {
		n := e.parent.indexOf(e)
		e.parent.children = slices.Delete(e.parent.children, n, n+1)
		e.parent = nil
	}
}

// HandOver: all that the element holds is held by another from now on, behind what that one held.
func (e *Element) HandOver(to *Element) {
	for _, n := range e.children {
		to.End().Put(n)
	}
	e.children = nil
}

// Put puts a node at the place. (An element that is elsewhere must be taken out first: the place may be told by what stands ahead of it.)
func (p Place) Put(n Node) {
	p.in.children = slices.Insert(p.in.children, p.at, n)
	if e, ok := n.(*Element); ok {
		e.parent = p.in
	}
}

// PutChars: characters join the text right ahead of the place, or are a new text there.
func (p Place) PutChars(s string) {
	if p.at > 0 {
		if t, ok := p.in.children[p.at-1].(*Text); ok {
			t.Chars += s
			return
		}
	}
	p.Put(&Text{s})
}
