package build

import (
	"htmltree/names"
	"htmltree/token"
	"htmltree/tree"
)

// The modes of the body (P14, P15), and those behind it (P16).

func (b *Builder) inBodyRules() rules {
	return rules{
		char:       b.charInBody,
		comment:    b.commentAt(b.place),
		start:      b.startTagsInBody(),
		otherStart: b.startOther,
		end:        b.endTagsInBody(),
		otherEnd:   b.endOther,
		others:     nothing,
	}
}

func (b *Builder) charInBody(t token.Token) {
	if !isNul(t) {
		b.reconstruct()
		b.insertChar(t)
	}
}

func (b *Builder) startTagsInBody() byName {
	return byName{}.
		on("html", b.giveHTML).
		on("body", b.giveBody).
		on("meta title style", b.asIn(inHead)).
		on("head caption col colgroup tbody td tfoot th thead tr", nothing).
		on("div ul dl p", b.startBlock).
		on("pre", b.startPre).
		on("h1 h2", b.startHeading).
		on("hr", b.startHr).
		on("form", b.startForm).
		on("li", b.startItem("li")).
		on("dd dt", b.startItem("dd", "dt")).
		on("button", b.startButton).
		on("table", b.startTable).
		on("textarea", b.startTextarea).
		on("option optgroup", b.startOption).
		on("select", b.startSelect).
		on("br img input", b.startVoid).
		on("a", b.startLink).
		on("b i", b.startFormatting).
		on("nobr", b.startNobr).
		on("object", b.startObject)
}

func (b *Builder) startOther(t token.Token) {
	b.reconstruct()
	b.insertTag(t)
}

func (b *Builder) startVoid(t token.Token) {
	b.reconstruct()
	b.insertVoid(t)
}

func (b *Builder) giveHTML(t token.Token) { b.give(b.open.At(0), t) }

func (b *Builder) giveBody(t token.Token) {
	if e := b.open.At(1); e != nil && e.Name == "body" {
		b.give(e, t)
	}
}

func (b *Builder) startBlock(t token.Token) {
	b.closeP()
	b.insertTag(t)
}

func (b *Builder) startPre(t token.Token) {
	b.startBlock(t)
	b.behind = true
}

func (b *Builder) startHeading(t token.Token) {
	b.closeP()
	b.popIf(headings())
	b.insertTag(t)
}

func headings() names.Ask { return names.Is("h1", "h2") }

func (b *Builder) startHr(t token.Token) {
	b.closeP()
	b.insertVoid(t)
}

func (b *Builder) startForm(t token.Token) {
	if b.form == nil {
		b.startBlock(t)
		b.form = b.open.Last()
	}
}

// startItem makes the rule for items, of which one ends the other, unless a special element stands in between.
func (b *Builder) startItem(items ...string) rule {
	item, walls := names.Is(items...), b.special.But(names.Is("div", "p"))
	return func(t token.Token) {
		b.close(item, walls)
		b.startBlock(t)
	}
}

func (b *Builder) startButton(t token.Token) {
	b.close(names.Is("button"), b.bounds)
	b.startOther(t)
}

func (b *Builder) startTable(t token.Token) {
	if !b.quirks {
		b.closeP()
	}
	b.insertTag(t)
	b.mode = inTable
}

func (b *Builder) startTextarea(t token.Token) {
	b.startText(t)
	b.behind = true
}

func (b *Builder) startOption(t token.Token) {
	b.popIf(names.Is("option"))
	b.startOther(t)
}

func (b *Builder) endTagsInBody() byName {
	return byName{}.
		on("body", b.endBody).
		on("html", b.endHTML).
		on("div ul dl pre button dd dt", b.endBlock).
		on("h1 h2", b.endHeading).
		on("li", b.endItem).
		on("p", b.endP).
		on("br", b.endBreak).
		on("form", b.endForm).
		on("a b i nobr", b.endFormatting).
		on("object", b.endObject)
}

func (b *Builder) endBody(token.Token) {
	if b.inScope(names.Is("body"), b.bounds) {
		b.mode = afterBody
	}
}

func (b *Builder) endHTML(t token.Token) {
	if b.inScope(names.Is("body"), b.bounds) {
		b.mode = afterBody
		b.take(t)
	}
}

func (b *Builder) endBlock(t token.Token) { b.close(names.Is(tagOf(t).Name), b.bounds) }

func (b *Builder) endHeading(token.Token) { b.close(headings(), b.bounds) }

func (b *Builder) endItem(token.Token) { b.close(names.Is("li"), b.itemBounds()) }

func (b *Builder) endP(token.Token) {
	if !b.inScope(names.Is("p"), b.buttonBounds()) {
		b.insertNamed("p")
	}
	b.closeP()
}

func (b *Builder) endBreak(token.Token) {
	b.reconstruct()
	b.insertNamed("br")
	b.open.Pop()
}

// endForm: what is open behind the form stays open.
func (b *Builder) endForm(token.Token) {
	form := b.form
	b.form = nil
	if form != nil && b.isInScope(form) {
		b.impliedEnds()
		b.open.Remove(form)
	}
}

func (b *Builder) endOther(t token.Token) { b.endNamed(tagOf(t).Name) }

func (b *Builder) endNamed(name string) { b.close(names.Is(name), b.special) }

func (b *Builder) afterBodyRules() rules {
	r := b.behindBodyRules(b.endOfHTML)
	r.end = byName{}.on("html", b.endAll)
	return r
}

func (b *Builder) afterAfterBodyRules() rules { return b.behindBodyRules(b.doc.End) }

// behindBodyRules are the same behind the body and behind html, but for the place of comments.
func (b *Builder) behindBodyRules(place func() tree.Place) rules {
	return rules{
		blank:   b.asIn(inBody),
		comment: b.commentAt(place),
		doctype: nothing,
		textEnd: nothing,
		start:   byName{}.on("html", b.asIn(inBody)),
		others:  b.backInBody,
	}
}

func (b *Builder) endOfHTML() tree.Place { return b.open.At(0).End() }

func (b *Builder) endAll(token.Token) { b.mode = afterAfterBody }

func (b *Builder) backInBody(t token.Token) {
	b.mode = inBody
	b.take(t)
}
