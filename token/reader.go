package token

import (
	"strings"

	"htmltree/chars"
	"htmltree/refs"
)

// Reader reads the tokens of a text.
type Reader struct {
	text  string     // the characters
	at    []int      // of each its place in the bytes of the text, and behind them the text's length
	begin int        // the first character of the token at work
	pos   int        // the first character that is not read yet
	attrs int        // how many attributes a tag may have
	names refs.Names // the references
	of    string     // the name of the element whose text is being read; "": the text is data
	plain bool       // no references are read in that text
}

// NewReader makes a reader that is at the beginning of a text.
func NewReader(text []byte, attrs int) *Reader {
	r := &Reader{attrs: attrs, names: refs.New()}
	r.text, r.at = chars.From(text)
	return r
}

// AsText: what comes is the text of an element of that name, up to its end tag (P10); plain: without references.
func (r *Reader) AsText(of string, plain bool) { r.of, r.plain = of, plain }

// Next reads one token; when none is left, the text's end, ever again. It panics with an *api.Stop where a tag has too many attributes.
func (r *Reader) Next() Token {
	r.begin = r.pos
	switch {
	case r.atEnd():
		return TextEnd{r.place()}
	case r.inText():
		return r.textChar()
	case r.take("<"):
		return r.behindLess()
	}
	return r.char()
}

// inText: here an element's text goes on. At its end tag the text is data again.
func (r *Reader) inText() bool {
	if r.of != "" && r.isEndTagNext(r.of) {
		r.of = ""
	}
	return r.of != ""
}

// isEndTagNext: an end tag of the name, which has small letters, begins here.
func (r *Reader) isEndTagNext(name string) bool {
	s, ok := strings.CutPrefix(r.rest(), "</")
	n := len(name)
	return ok && len(s) > n && chars.Small(s[:n]) == name && chars.OneOf(chars.Blanks+"/>")(s[n])
}

// textChar reads a character of an element's text.
func (r *Reader) textChar() Token {
	read := r.char
	if r.plain {
		read = r.bareChar
	}
	c := read()
	c.Text = chars.NoNul(c.Text)
	return c
}

// bareChar reads a character, whichever.
func (r *Reader) bareChar() Char {
	r.pos = r.begin + 1
	return Char{r.place(), r.text[r.begin:r.pos]}
}

// behindLess reads what begins with "<".
func (r *Reader) behindLess() Token {
	switch {
	case r.isNext(chars.Letter):
		return r.startTag()
	case r.take("/"):
		return r.behindSlash()
	case r.take("!--"):
		return r.comment()
	case r.takeInAnyLetters("!doctype"):
		return r.doctype()
	case r.take("!"), r.isNext(chars.OneOf("?")):
		return r.looseComment()
	}
	return r.char()
}

// behindSlash reads what begins with "</".
func (r *Reader) behindSlash() Token {
	switch {
	case r.isNext(chars.Letter):
		return r.endTag()
	case r.take(">"):
		return Lost{r.place()}
	case r.atEnd():
		return r.char()
	}
	return r.looseComment()
}

// char reads a character, or a reference; whatever else was tried ahead of it.
func (r *Reader) char() Char {
	text, size := r.names.Read(r.text[r.begin:], false)
	if size == 0 {
		return r.bareChar()
	}
	r.pos = r.begin + size
	return Char{r.place(), text}
}

// comment reads on behind "<!--".
func (r *Reader) comment() Token {
	text := ""
	if !r.take(">") && !r.take("->") {
		text = r.upToCommentEnd()
	}
	return Comment{r.place(), chars.NoNul(text)}
}

func (r *Reader) upToCommentEnd() string {
	from := r.pos
	for ; !r.atEnd(); r.pos++ {
		text := r.text[from:r.pos]
		if r.take("-->") || r.take("--!>") {
			return text
		}
	}
	return withoutHalfEnd(r.text[from:])
}

// withoutHalfEnd: an end of a comment that the text's end cuts off is not of its text.
func withoutHalfEnd(s string) string {
	for _, half := range []string{"--!", "--", "-"} {
		if text, ok := strings.CutSuffix(s, half); ok {
			return text
		}
	}
	return s
}

// looseComment reads a comment that did not begin with "<!--", from where its text begins.
func (r *Reader) looseComment() Token {
	text := r.upTo(chars.OneOf(">"))
	r.take(">")
	return Comment{r.place(), chars.NoNul(text)}
}

// doctype reads on behind "<!doctype".
func (r *Reader) doctype() Token {
	r.passOver(chars.Blanks)
	name := readName(r.upTo(chars.OneOf(chars.Blanks + ">")))
	more := strings.Trim(r.upTo(chars.OneOf(">")), chars.Blanks)
	closed := r.take(">")
	return Doctype{r.place(), name, name == "" || more != "" || !closed}
}

// readName tells a name as it is meant.
func readName(s string) string { return chars.NoNul(chars.Small(s)) }

// atEnd: all characters are read.
func (r *Reader) atEnd() bool { return r.pos == len(r.text) }

// rest: the characters that are not read yet.
func (r *Reader) rest() string { return r.text[r.pos:] }

// place tells the bytes from the token's beginning up to here.
func (r *Reader) place() Place { return Place{r.at[r.begin], r.at[r.pos]} }

// isNext asks the next character, if there is one.
func (r *Reader) isNext(ask func(c byte) bool) bool { return !r.atEnd() && ask(r.text[r.pos]) }

// take reads s, if it is next.
func (r *Reader) take(s string) bool {
	if !strings.HasPrefix(r.rest(), s) {
		return false
	}
	r.pos += len(s)
	return true
}

// takeInAnyLetters reads s, which has small letters, if it is next, be it in capitals.
func (r *Reader) takeInAnyLetters(s string) bool {
	rest := r.rest()
	return len(rest) >= len(s) && chars.Small(rest[:len(s)]) == s && r.take(rest[:len(s)])
}

// upTo reads the characters ahead of the first of which end says true, or of the text's end.
func (r *Reader) upTo(end func(c byte) bool) string {
	from := r.pos
	for !r.atEnd() && !end(r.text[r.pos]) {
		r.pos++
	}
	return r.text[from:r.pos]
}

// passOver reads the characters of a set.
func (r *Reader) passOver(set string) { r.upTo(chars.Not(chars.OneOf(set))) }
