// Package htmltree: a parser of HTML with limits: see DOC.md.
package htmltree

import (
	"errors"
	"slices"

	"htmltree/api"
	"htmltree/build"
)

// Parser is a text that is written, and behind Close its tree. (A nil one, as New hands out beside an error, is as one that is closed and tells nothing.)
type Parser struct {
	limits build.Limits
	text   []byte // what was written, until it is read
	closed bool
	end    int   // where the reading ended
	err    error // what Close said
	told         // nothing, unless Close said nil
}

// New makes a parser (P3).
func New(depth int, forms int, attrs int) (*Parser, error) {
	if depth < api.MinDepth || depth > api.MaxDepth || forms < 1 || forms > api.MaxForm || attrs < 1 || attrs > api.MaxAttr {
		return nil, api.ErrLimit
	}
	return &Parser{limits: build.Limits{Depth: depth, Forms: forms, Attrs: attrs}}, nil
}

// Write: the text goes on with b (P3).
func (p *Parser) Write(b []byte) (int, error) {
	if p.isClosed() {
		return 0, api.ErrDone
	}
	if len(b) > api.MaxText-len(p.text) {
		return 0, api.ErrLong
	}
	p.text = append(p.text, b...)
	return len(b), nil
}

// Close: the text is read (P4).
func (p *Parser) Close() error {
	if p.isClosed() {
		return api.ErrDone
	}
	all, stop := read(p.text, p.limits)
	p.closed, p.end, p.told = true, len(p.text), all
	if stop != nil {
		p.end, p.err = stop.At, stop
	}
	p.text = nil
	return p.err
}

func (p *Parser) isClosed() bool { return p == nil || p.closed }

// Stop tells where the reading ended (P4).
func (p *Parser) Stop() (int, error) {
	switch {
	case p == nil:
		return 0, api.ErrDone
	case !p.closed:
		return 0, api.ErrOpen
	}
	return p.end, p.err
}

// Number tells by which number an error is known (P4).
func Number(err error) api.Errno {
	if err == nil {
		return api.OK
	}
	if e, ok := findErrno(err); ok {
		return e
	}
	return -1
}

// findErrno looks for an Errno within an error. There is none in what can't be unwrapped, such as a nil *api.Stop.
func findErrno(err error) (e api.Errno, ok bool) {
	defer func() {
		if recover() != nil {
			e, ok = 0, false
		}
	}()
	ok = errors.As(err, &e)
	return e, ok
}

// Trail tells what the bytes of the text were (P26).
func (p *Parser) Trail() []api.Span {
	if p == nil {
		return nil
	}
	return slices.Clone(p.spans)
}

// Items walks through the tree (P27).
func (p *Parser) Items() func(yield func(api.Item) bool) { return p.walk }

// walk begins anew each time; what there is to walk through is asked then.
func (p *Parser) walk(yield func(api.Item) bool) {
	if p.hasTree() {
		p.doc.Items(yield)
	}
}

// hasTree: Close said nil.
func (p *Parser) hasTree() bool { return p != nil && p.doc != nil }

// List tells the items, one behind the other (P27).
func (p *Parser) List() []api.Item {
	var l []api.Item
	for x := range p.Items() {
		l = append(l, x)
	}
	return l
}

// Text writes the tree (P28).
func (p *Parser) Text() string {
	if !p.hasTree() {
		return ""
	}
	return p.doc.Written()
}

// Visit tells a visitor what is met (P29). (A nil one can't be told anything.)
func (p *Parser) Visit(v api.Visitor) {
	if p.hasTree() && v != nil {
		p.doc.VisitChildren(v)
	}
}

// Names counts elements by their names (P30).
func (p *Parser) Names() map[string]int {
	counts := map[string]int{}
	for x := range p.Items() {
		if x.Kind == api.Enter {
			counts[x.S]++
		}
	}
	return counts
}

// Collect tells of the items those that take takes, as it turns them (P30). (A nil one takes none.)
func Collect[T any](p *Parser, take func(api.Item) (T, bool)) []T {
	if take == nil {
		return nil
	}
	var l []T
	for x := range p.Items() {
		if y, taken := take(x); taken {
			l = append(l, y)
		}
	}
	return l
}
