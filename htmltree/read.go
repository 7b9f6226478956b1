package htmltree

import (
	"htmltree/api"
	"htmltree/build"
	"htmltree/token"
	"htmltree/tree"
)

// told is what a text was found to be.
type told struct {
	spans []api.Span
	doc   *tree.Element
}

// read reads a text: its tokens, and of these the tree. A limit that is met is thrown from deep within, and caught here.
func read(text []byte, limits build.Limits) (all told, stop *api.Stop) {
	defer func() {
		if thrown := recover(); thrown != nil {
			all, stop = told{}, limitOf(thrown)
		}
	}()
	r := token.NewReader(text, limits.Attrs)
	b := build.New(limits, r.AsText)
	for {
		t := r.Next()
		b.Take(t)
		kind := kindOf(t)
		if kind == 0 {
			all.doc = b.Document()
			return all, nil
		}
		from, to := t.Bytes()
		all.spans = addSpan(all.spans, api.Span{Kind: kind, From: from, To: to})
	}
}

// limitOf tells the limit that was thrown. Anything else is a fault of the program, and no limit: it is thrown on.
func limitOf(thrown any) *api.Stop {
	stop, ok := thrown.(*api.Stop)
	if !ok {
		panic(thrown)
	}
	return stop
}

// kindOf tells which span a token is: 0 for the text's end, which is none.
func kindOf(t token.Token) int {
	switch t.(type) {
	case token.Char:
		return api.Chars
	case token.StartTag:
		return api.Start
	case token.EndTag:
		return api.End
	case token.Comment:
		return api.Note
	case token.Doctype:
		return api.Type
	case token.Lost:
		return api.Lost
	}
	return 0
}

// addSpan: characters go on with the span of those right ahead of them.
func addSpan(spans []api.Span, s api.Span) []api.Span {
	if n := len(spans); n > 0 && s.Kind == api.Chars && spans[n-1].Kind == api.Chars {
		spans[n-1].To = s.To
		return spans
	}
	return append(spans, s)
}
