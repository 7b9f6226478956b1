package build

import (
	"strings"

	"htmltree/chars"
	"htmltree/names"
	"htmltree/token"
)

// mode says by which rules a token is taken.
type mode int

const (
	initial mode = iota
	beforeHTML
	beforeHead
	inHead
	afterHead
	inText
	inBody
	inTable
	inTableText
	inCaption
	inColumnGroup
	inTableBody
	inRow
	inCell
	inSelect
	inSelectInTable
	afterBody
	afterAfterBody
	modes // how many there are
)

// rule is what is done with a token.
type rule func(t token.Token)

// byName has rules by tags' names.
type byName map[string]rule

// on: tags of these names are taken by a rule.
func (m byName) on(names string, do rule) byName {
	for _, name := range strings.Fields(names) {
		m[name] = do
	}
	return m
}

// rules are those of one mode, by what a token is. Where one is missing, the next wider one holds: of blanks that of characters, of all in the end that of others.
type rules struct {
	blank, char, comment, doctype, textEnd rule
	start, end                             byName
	otherStart, otherEnd                   rule
	others                                 rule
}

// of tells the rule for a token.
func (r rules) of(t token.Token) rule {
	switch t := t.(type) {
	case token.Char:
		if isBlank(t.Text) {
			return firstOf(r.blank, r.char, r.others)
		}
		return firstOf(r.char, r.others)
	case token.Comment:
		return firstOf(r.comment, r.others)
	case token.Doctype:
		return firstOf(r.doctype, r.others)
	case token.StartTag:
		return firstOf(r.start[t.Name], r.otherStart, r.others)
	case token.EndTag:
		return firstOf(r.end[t.Name], r.otherEnd, r.others)
	}
	return firstOf(r.textEnd, r.others)
}

// firstOf tells the first rule that there is.
func firstOf(some ...rule) rule {
	for _, do := range some {
		if do != nil {
			return do
		}
	}
	return nothing
}

// nothing: the token is passed over.
func nothing(token.Token) {}

// ends makes the rule that something ends, if it can.
func ends(what func() bool) rule {
	return func(token.Token) { what() }
}

// endsAhead makes the rule that something ends ahead of the token, which is taken again if it did.
func (b *Builder) endsAhead(what func() bool) rule {
	return func(t token.Token) {
		if what() {
			b.take(t)
		}
	}
}

// ifInTable makes the rule that tags whose name is in table scope are taken by a rule, and others passed over.
func (b *Builder) ifInTable(do rule) rule {
	return func(t token.Token) {
		if b.inScope(names.Is(tagOf(t).Name), tableBounds()) {
			do(t)
		}
	}
}

// isNul: what a token stands for is NUL.
func isNul(t token.Token) bool { return charsOf(t) == "\x00" }

// isBlank: what a character token stands for is a blank.
func isBlank(s string) bool { return len(s) == 1 && strings.Contains(chars.Blanks, s) }

// tagOf tells the tag that a token is.
func tagOf(t token.Token) token.Tag {
	switch t := t.(type) {
	case token.StartTag:
		return t.Tag
	case token.EndTag:
		return t.Tag
	}
	return token.Tag{}
}

// charsOf tells what a token stands for, if it is a character.
func charsOf(t token.Token) string {
	if c, ok := t.(token.Char); ok {
		return c.Text
	}
	return ""
}
