// Package token: a text as tokens, one behind the other (P5 to P9).
package token

import "htmltree/api"

// Token is one piece of the text; which kind it is of, its type tells.
type Token interface {
	// Bytes tells where in the text it begins, and where what is behind it does.
	Bytes() (from, to int)
}

// Place is what tokens of all kinds have: their bytes.
type Place struct{ From, To int }

// Bytes tells the place.
func (p Place) Bytes() (from, to int) { return p.From, p.To }

// Char is a character, or what a reference stands for.
type Char struct {
	Place
	Text string
}

// Tag is what tags of both kinds have.
type Tag struct {
	Place
	Name  string
	Attrs []api.Attribute
}

// StartTag begins an element.
type StartTag struct{ Tag }

// EndTag ends one.
type EndTag struct{ Tag }

// Comment is a comment.
type Comment struct {
	Place
	Text string
}

// Doctype is a doctype.
type Doctype struct {
	Place
	Name   string
	Quirks bool
}

// Lost is what tells nothing: "</>", and a tag that the text's end cuts off.
type Lost struct{ Place }

// TextEnd is the text's end: the last token, without bytes.
type TextEnd struct{ Place }

// has: the tag has an attribute of the name.
func (t Tag) has(name string) bool {
	for _, a := range t.Attrs {
		if a.Name == name {
			return true
		}
	}
	return false
}
