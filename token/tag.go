package token

import (
	"htmltree/api"
	"htmltree/chars"
)

func (r *Reader) startTag() Token {
	if t, whole := r.tag(); whole {
		return StartTag{t}
	}
	return Lost{r.place()}
}

func (r *Reader) endTag() Token {
	if t, whole := r.tag(); whole {
		return EndTag{t}
	}
	return Lost{r.place()}
}

// tag reads a tag from its name on; false: the text's end cuts it off.
func (r *Reader) tag() (Tag, bool) {
	t := Tag{Name: readName(r.upTo(chars.OneOf(chars.Blanks + "/>")))}
	for {
		r.passOver(chars.Blanks + "/")
		if r.atEnd() {
			return Tag{}, false
		}
		if r.take(">") {
			t.Place = r.place()
			return t, true
		}
		r.attribute(&t)
	}
}

// attribute reads one attribute; the tag is given it, if its name is new.
func (r *Reader) attribute(t *Tag) {
	name := r.attributeName()
	isNew := !t.has(name)
	if isNew && !r.atEnd() && len(t.Attrs) >= r.attrs {
		panic(&api.Stop{Err: api.ErrAttr, At: r.at[r.begin]})
	}
	value := r.value()
	if isNew {
		t.Attrs = append(t.Attrs, api.Attribute{Name: name, Value: value})
	}
}

// attributeName reads a name; its first character may be any, a "=" too.
func (r *Reader) attributeName() string {
	from := r.pos
	r.pos++
	r.upTo(chars.OneOf(chars.Blanks + "/>="))
	return readName(r.text[from:r.pos])
}

// value reads on behind an attribute's name: "", if no value is there.
func (r *Reader) value() string {
	r.passOver(chars.Blanks)
	if !r.take("=") {
		return ""
	}
	r.passOver(chars.Blanks)
	return chars.NoNul(r.names.Value(r.rawValue()))
}

// rawValue reads a value's characters. No reference reaches beyond them: none has a blank, a quote or a ">" in it.
func (r *Reader) rawValue() string {
	for _, quote := range []string{`"`, `'`} {
		if r.take(quote) {
			s := r.upTo(chars.OneOf(quote))
			r.take(quote)
			return s
		}
	}
	return r.upTo(chars.OneOf(chars.Blanks + ">"))
}
