package build

import (
	"htmltree/names"
	"htmltree/token"
)

// The modes of selects (P14, P23).

func (b *Builder) startSelect(t token.Token) {
	b.startOther(t)
	switch b.mode {
	case inTable, inCaption, inTableBody, inRow, inCell:
		b.mode = inSelectInTable
	default:
		b.mode = inSelect
	}
}

func (b *Builder) inSelectRules() rules {
	return rules{
		char:    b.charInSelect,
		comment: b.commentAt(b.place),
		start: byName{}.
			on("html", b.asIn(inBody)).
			on("option", b.startOptionInSelect).
			on("optgroup", b.startOptgroupInSelect).
			on("hr", b.startHrInSelect).
			on("select", ends(b.endSelect)).
			on("input textarea", b.endsAhead(b.endSelect)),
		end: byName{}.
			on("optgroup", b.endOptgroupInSelect).
			on("option", b.endOptionInSelect).
			on("select", ends(b.endSelect)),
		others: nothing,
	}
}

func option() names.Ask { return names.Is("option") }

func optgroup() names.Ask { return names.Is("optgroup") }

func (b *Builder) charInSelect(t token.Token) {
	if !isNul(t) {
		b.insertChar(t)
	}
}

func (b *Builder) startOptionInSelect(t token.Token) {
	b.popIf(option())
	b.insertTag(t)
}

func (b *Builder) startOptgroupInSelect(t token.Token) {
	b.popIf(option())
	b.popIf(optgroup())
	b.insertTag(t)
}

func (b *Builder) startHrInSelect(t token.Token) {
	b.startOptgroupInSelect(t)
	b.open.Pop()
}

func (b *Builder) endOptgroupInSelect(token.Token) {
	if b.current(option()) && optgroup()(b.open.RightAhead(b.open.Last()).Name) {
		b.open.Pop()
	}
	b.popIf(optgroup())
}

func (b *Builder) endOptionInSelect(token.Token) { b.popIf(option()) }

func (b *Builder) endSelect() bool {
	if !b.close(names.Is("select"), names.Not(option().Or(optgroup()))) {
		return false
	}
	b.reset()
	return true
}

func (b *Builder) inSelectInTableRules() rules {
	const parts = "caption table tbody tfoot thead tr td th"
	return rules{
		start:  byName{}.on(parts, b.endsAhead(b.endSelect)),
		end:    byName{}.on(parts, b.ifInTable(b.endsAhead(b.endSelect))),
		others: b.asIn(inSelect),
	}
}
