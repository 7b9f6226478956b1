package build

import (
	"htmltree/api"
	"htmltree/token"
	"htmltree/tree"
)

// The modes ahead of the body (P12), and the one of text (P13).

func (b *Builder) initialRules() rules {
	return rules{
		blank:   nothing,
		comment: b.commentAt(b.doc.End),
		doctype: b.startDocument,
		others:  b.startWithoutDoctype,
	}
}

func (b *Builder) startDocument(t token.Token) {
	if d, ok := t.(token.Doctype); ok {
		b.doc.End().Put(&tree.Doctype{Name: d.Name})
		b.quirks = d.Quirks || d.Name != "html"
	}
	b.mode = beforeHTML
}

func (b *Builder) startWithoutDoctype(t token.Token) {
	b.quirks = true
	b.mode = beforeHTML
	b.take(t)
}

func (b *Builder) beforeHTMLRules() rules {
	return rules{
		blank:    nothing,
		doctype:  nothing,
		comment:  b.commentAt(b.doc.End),
		start:    byName{}.on("html", b.startHTML),
		end:      byName{}.on("head body html br", b.impliedHTML),
		otherEnd: nothing,
		others:   b.impliedHTML,
	}
}

func (b *Builder) startHTML(t token.Token) { b.openHTML(tagOf(t).Attrs) }

func (b *Builder) impliedHTML(t token.Token) {
	b.openHTML(nil)
	b.take(t)
}

func (b *Builder) openHTML(attrs []api.Attribute) {
	e := &tree.Element{Name: "html", Attrs: attrs}
	b.doc.End().Put(e)
	b.push(e)
	b.mode = beforeHead
}

func (b *Builder) beforeHeadRules() rules {
	return rules{
		blank:    nothing,
		doctype:  nothing,
		comment:  b.commentAt(b.place),
		start:    byName{}.on("html", b.asIn(inBody)).on("head", b.startHead),
		end:      byName{}.on("head body html br", b.impliedHead),
		otherEnd: nothing,
		others:   b.impliedHead,
	}
}

func (b *Builder) startHead(t token.Token) { b.openHead(tagOf(t).Attrs) }

func (b *Builder) impliedHead(t token.Token) {
	b.openHead(nil)
	b.take(t)
}

func (b *Builder) openHead(attrs []api.Attribute) {
	b.head = &tree.Element{Name: "head", Attrs: attrs}
	b.insert(b.head)
	b.mode = inHead
}

func (b *Builder) inHeadRules() rules {
	return rules{
		blank:   b.insertChar,
		comment: b.commentAt(b.place),
		doctype: nothing,
		start: byName{}.
			on("head", nothing).
			on("html", b.asIn(inBody)).
			on("meta", b.insertVoid).
			on("title", b.startText).
			on("style", b.startPlainText),
		end:      byName{}.on("head", b.endHead).on("body html br", b.impliedEndOfHead),
		otherEnd: nothing,
		others:   b.impliedEndOfHead,
	}
}

func (b *Builder) endHead(token.Token) {
	b.open.Pop()
	b.mode = afterHead
}

func (b *Builder) impliedEndOfHead(t token.Token) {
	b.endHead(t)
	b.take(t)
}

func (b *Builder) afterHeadRules() rules {
	return rules{
		blank:   b.insertChar,
		comment: b.commentAt(b.place),
		doctype: nothing,
		start: byName{}.
			on("head", nothing).
			on("html", b.asIn(inBody)).
			on("body", b.startBody).
			on("meta title style", b.backInHead),
		end:      byName{}.on("body html br", b.impliedBody),
		otherEnd: nothing,
		others:   b.impliedBody,
	}
}

func (b *Builder) startBody(t token.Token) {
	b.insertTag(t)
	b.mode = inBody
}

func (b *Builder) impliedBody(t token.Token) {
	b.insertNamed("body")
	b.mode = inBody
	b.take(t)
}

// backInHead: what belongs in the head and comes behind it. The head goes from the list ahead of what is still open within it.
func (b *Builder) backInHead(t token.Token) {
	b.push(b.head)
	b.takeAs(inHead, t)
	b.open.Remove(b.head)
}

// startText inserts an element whose text has references, and no tags.
func (b *Builder) startText(t token.Token) { b.openText(t, false) }

// startPlainText inserts an element whose text has no references either.
func (b *Builder) startPlainText(t token.Token) { b.openText(t, true) }

func (b *Builder) openText(t token.Token, plain bool) {
	b.insertTag(t)
	b.asText(tagOf(t).Name, plain)
	b.kept = b.mode
	b.mode = inText
}

func (b *Builder) inTextRules() rules {
	return rules{
		char:    b.insertChar,
		textEnd: b.cutText,
		others:  b.endText,
	}
}

func (b *Builder) endText(token.Token) {
	b.open.Pop()
	b.mode = b.kept
}

// cutText: the text's end is not the element's end tag, and is still to be taken.
func (b *Builder) cutText(t token.Token) {
	b.endText(t)
	b.take(t)
}
