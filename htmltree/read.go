package htmltree

import (
	"htmltree/api"
	"htmltree/token"
)

// read reads a text as tokens: what its bytes were. A limit that is met is thrown from deep within, and caught here.
func read(text []byte, attrs int) (spans []api.Span, stop *api.Stop) {
	defer func() {
		if thrown := recover(); thrown != nil {
			spans, stop = nil, limitOf(thrown)
		}
	}()
	r := token.NewReader(text, attrs)
	for {
		t := r.Next()
		kind := kindOf(t)
		if kind == 0 {
			return spans, nil
		}
		from, to := t.Bytes()
		spans = addSpan(spans, api.Span{Kind: kind, From: from, To: to})
	}
}

// limitOf tells the limit that was thrown. Anything else is a fault of the program, and no limit: it is thrown on.
func limitOf(thrown any) *api.Stop {
	stop, ok := thrown.(*api.Stop)
	if !ok {
		panic(thrown)
	}
	return stop
}

// kindOf tells which span a token is: 0 for the text's end, which is none.
func kindOf(t token.Token) int {
	switch t.(type) {
	case token.Char:
		return api.Chars
	case token.StartTag:
		return api.Start
	case token.EndTag:
		return api.End
	case token.Comment:
		return api.Note
	case token.Doctype:
		return api.Type
	case token.Lost:
		return api.Lost
	}
	return 0
}

// addSpan: characters go on with the span of those right ahead of them.
func addSpan(spans []api.Span, s api.Span) []api.Span {
	if n := len(spans); n > 0 && s.Kind == api.Chars && spans[n-1].Kind == api.Chars {
		spans[n-1].To = s.To
		return spans
	}
	return append(spans, s)
}
