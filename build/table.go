package build

import (
	"slices"

	"htmltree/chars"
	"htmltree/names"
	"htmltree/token"
)

// The modes of tables (P20 to P22), and how the mode is reset (P24).

func (b *Builder) inTableRules() rules {
	return rules{
		char:    b.charInTable,
		comment: b.commentAt(b.place),
		doctype: nothing,
		start: byName{}.
			on("caption", b.startCaption).
			on("colgroup", b.startsIn(table(), inColumnGroup)).
			on("col", b.impliesIn(table(), "colgroup", inColumnGroup)).
			on("tbody tfoot thead", b.startsIn(table(), inTableBody)).
			on("td th tr", b.impliesIn(table(), "tbody", inTableBody)).
			on("table", b.endsAhead(b.endTable)).
			on("style", b.asIn(inHead)).
			on("form", b.startFormInTable).
			on("input", b.startInputInTable),
		end: byName{}.
			on("table", ends(b.endTable)).
			on("body caption col colgroup html tbody td tfoot th thead tr", nothing),
		others: b.foster,
	}
}

func table() names.Ask { return names.Is("table") }

func tableBodies() names.Ask { return names.Is("tbody", "tfoot", "thead") }

func row() names.Ask { return names.Is("tr") }

func cells() names.Ask { return names.Is("td", "th") }

func (b *Builder) charInTable(t token.Token) {
	if !b.current(tableParts()) {
		b.foster(t)
		return
	}
	b.kept = b.mode
	b.mode = inTableText
	b.take(t)
}

// startsIn makes the rule that a part of a table begins in such an element, and the mode is another.
func (b *Builder) startsIn(such names.Ask, m mode) rule {
	return func(t token.Token) {
		b.clearTo(such)
		b.insertTag(t)
		b.mode = m
	}
}

// impliesIn makes the rule that a part of a table of that name begins ahead of the token, which is taken again.
func (b *Builder) impliesIn(such names.Ask, name string, m mode) rule {
	return func(t token.Token) {
		b.clearTo(such)
		b.insertNamed(name)
		b.mode = m
		b.take(t)
	}
}

// startCaption: the marker is there ahead of the caption.
func (b *Builder) startCaption(t token.Token) {
	b.clearTo(table())
	b.addMarker()
	b.insertTag(t)
	b.mode = inCaption
}

func (b *Builder) startFormInTable(t token.Token) {
	if b.form == nil {
		b.insertTag(t)
		b.form = b.open.Pop()
	}
}

// startInputInTable: what is not seen may stay in the table.
func (b *Builder) startInputInTable(t token.Token) {
	if isHidden(tagOf(t)) {
		b.insertVoid(t)
		return
	}
	b.foster(t)
}

func isHidden(tag token.Tag) bool {
	for _, a := range tag.Attrs {
		if a.Name == "type" {
			return chars.Small(a.Value) == "hidden"
		}
	}
	return false
}

func (b *Builder) endTable() bool {
	if !b.close(table(), tableBounds()) {
		return false
	}
	b.reset()
	return true
}

func (b *Builder) inTableTextRules() rules {
	return rules{char: b.keepChar, others: b.endTableText}
}

func (b *Builder) keepChar(t token.Token) {
	if !isNul(t) {
		b.waiting = append(b.waiting, t)
	}
}

// endTableText: blanks stay in the table, but with other characters they go where these do.
func (b *Builder) endTableText(t token.Token) {
	do := b.insertChar
	if slices.ContainsFunc(b.waiting, isNotBlank) {
		do = b.foster
	}
	for _, c := range b.waiting {
		do(c)
	}
	b.waiting = nil
	b.mode = b.kept
	b.take(t)
}

func isNotBlank(t token.Token) bool { return !isBlank(charsOf(t)) }

func (b *Builder) inCaptionRules() rules {
	return rules{
		start: byName{}.on("caption col colgroup tbody td tfoot th thead tr", b.endsAhead(b.endCaption)),
		end: byName{}.
			on("caption", ends(b.endCaption)).
			on("table", b.endsAhead(b.endCaption)).
			on("body col colgroup html tbody td tfoot th thead tr", nothing),
		others: b.asIn(inBody),
	}
}

func (b *Builder) endCaption() bool { return b.endMarkedPart(names.Is("caption"), inTable) }

func (b *Builder) inColumnGroupRules() rules {
	return rules{
		blank:   b.insertChar,
		comment: b.commentAt(b.place),
		doctype: nothing,
		textEnd: b.asIn(inBody),
		start:   byName{}.on("html", b.asIn(inBody)).on("col", b.insertVoid),
		end:     byName{}.on("col", nothing).on("colgroup", ends(b.endColumnGroup)),
		others:  b.endsAhead(b.endColumnGroup),
	}
}

func (b *Builder) endColumnGroup() bool {
	if !b.current(names.Is("colgroup")) {
		return false
	}
	b.open.Pop()
	b.mode = inTable
	return true
}

func (b *Builder) inTableBodyRules() rules {
	return rules{
		start: byName{}.
			on("tr", b.startsIn(tableBodies(), inRow)).
			on("td th", b.impliesIn(tableBodies(), "tr", inRow)).
			on("caption col colgroup tbody tfoot thead", b.endsAhead(b.endTableBody)),
		end: byName{}.
			on("tbody tfoot thead", b.ifInTable(ends(b.endTableBody))).
			on("table", b.endsAhead(b.endTableBody)).
			on("body caption col colgroup html td th tr", nothing),
		others: b.asIn(inTable),
	}
}

func (b *Builder) endTableBody() bool { return b.endPart(tableBodies(), inTable) }

// endPart: such a part of a table ends, if it is in table scope, and the mode is another. It tells whether it did.
func (b *Builder) endPart(such names.Ask, m mode) bool {
	if !b.close(such, tableBounds()) {
		return false
	}
	b.mode = m
	return true
}

// endMarkedPart: likewise one that brought a marker with it.
func (b *Builder) endMarkedPart(such names.Ask, m mode) bool {
	if !b.endPart(such, m) {
		return false
	}
	b.unmark()
	return true
}

func (b *Builder) inRowRules() rules {
	return rules{
		start: byName{}.
			on("td th", b.startCell).
			on("caption col colgroup tbody tfoot thead tr", b.endsAhead(b.endRow)),
		end: byName{}.
			on("tr", ends(b.endRow)).
			on("table", b.endsAhead(b.endRow)).
			on("tbody tfoot thead", b.ifInTable(b.endsAhead(b.endRow))).
			on("body caption col colgroup html td th", nothing),
		others: b.asIn(inTable),
	}
}

func (b *Builder) startCell(t token.Token) {
	b.startsIn(row(), inCell)(t)
	b.addMarker()
}

func (b *Builder) endRow() bool { return b.endPart(row(), inTableBody) }

func (b *Builder) inCellRules() rules {
	return rules{
		start: byName{}.on("caption col colgroup tbody td tfoot th thead tr", b.endsAhead(b.endCell)),
		end: byName{}.
			on("td th", b.ifInTable(ends(b.endCell))).
			on("table tbody tfoot thead tr", b.ifInTable(b.endsAhead(b.endCell))).
			on("body caption col colgroup html", nothing),
		others: b.asIn(inBody),
	}
}

func (b *Builder) endCell() bool { return b.endMarkedPart(cells(), inRow) }

// reset: the mode is that of the innermost part of a table that is open; in body, if none is.
func (b *Builder) reset() {
	b.mode = inBody
	for e := range b.open.Up() {
		if m := modeWithin(e.Name); m != inBody {
			b.mode = m
			return
		}
	}
}

func modeWithin(name string) mode {
	switch name {
	case "td", "th":
		return inCell
	case "tr":
		return inRow
	case "tbody", "thead", "tfoot":
		return inTableBody
	case "caption":
		return inCaption
	case "colgroup":
		return inColumnGroup
	case "table":
		return inTable
	}
	return inBody
}
