package htmltree_test

import (
	"bytes"
	"errors"
	"math"
	"slices"
	"strings"
	"testing"

	"htmltree/api"
	"htmltree/htmltree"
)

// made makes a parser with a limit of attributes and a text.
func made(t *testing.T, text string, attrs int) *htmltree.Parser {
	t.Helper()
	p, err := htmltree.New(api.MaxDepth, api.MaxForm, attrs)
	if p == nil || err != nil {
		t.Fatalf("P3: New = %v, %v", p, err)
	}
	if n, err := p.Write([]byte(text)); n != len(text) || err != nil {
		t.Fatalf("P3: Write(%q) = %d, %v", text, n, err)
	}
	return p
}

// closed makes one that is closed.
func closed(t *testing.T, text string) *htmltree.Parser {
	t.Helper()
	p := made(t, text, api.MaxAttr)
	if err := p.Close(); err != nil {
		t.Fatalf("P4: Close of %q = %v", text, err)
	}
	return p
}

// tellsNothing: what a parser says whose Close did not say nil.
func tellsNothing(t *testing.T, p *htmltree.Parser) {
	t.Helper()
	if l := p.Trail(); l != nil {
		t.Errorf("P4: Trail = %v", l)
	}
	if l := p.List(); l != nil {
		t.Errorf("P4: List = %v", l)
	}
	for x := range p.Items() {
		t.Errorf("P4: Items has %v", x)
	}
	if s := p.Text(); s != "" {
		t.Errorf("P4: Text = %q", s)
	}
	v := &hearer{}
	p.Visit(v)
	if v.heard != nil {
		t.Errorf("P4: Visit tells %v", v.heard)
	}
	if m := p.Names(); m == nil || len(m) != 0 {
		t.Errorf("P2, P4: Names = %#v", m)
	}
	if l := htmltree.Collect(p, all); l != nil {
		t.Errorf("P4: Collect = %v", l)
	}
}

// wholeTrail holds a trail against what every one is: from the first byte to the last, without gaps, neighbouring characters as one.
func wholeTrail(t *testing.T, text string, l []api.Span) {
	t.Helper()
	at, kind := 0, 0
	for _, s := range l {
		if s.From != at || s.To <= s.From || s.Kind < api.Chars || s.Kind > api.Lost || s.Kind == api.Chars && kind == api.Chars {
			t.Fatalf("P26: Trail of %q = %v", text, l)
		}
		at, kind = s.To, s.Kind
	}
	if at != len(text) {
		t.Fatalf("P26: Trail of %q = %v", text, l)
	}
}

// readBoth reads a text under the greatest limit of attributes and the least.
func readBoth(t *testing.T, text string) {
	t.Helper()
	wholeTrail(t, text, closed(t, text).Trail())
	p := made(t, text, 1)
	err := p.Close()
	n, same := p.Stop()
	if same != err || err == nil && n != len(text) || err != nil && (!errors.Is(err, api.ErrAttr) || text[n] != '<' || p.Trail() != nil) {
		t.Fatalf("P4: %q: Close = %v, Stop = %d, %v", text, err, n, same)
	}
}

// texts calls f with all texts of that many pieces.
func texts(pieces []string, n int, f func(string)) {
	if n == 0 {
		f("")
		return
	}
	texts(pieces, n-1, func(s string) {
		for _, x := range pieces {
			f(s + x)
		}
	})
}

func TestP1AllShortTexts(t *testing.T) {
	pieces := []string{"<", "/", ">", "!", "--", "&", "#x", "amp", ";", "=", "'", " a", "\r", "\n", "\x00", "\xff", "<p ", "<!doctype"}
	for n := range 4 {
		texts(pieces, n, func(s string) { readBoth(t, s) })
	}
	for a := range 256 {
		for _, s := range []string{"", "a", "<", "<p", "<p ", "<p a", "</", "<!", "<!--", "<!doctype ", "&", "&#", "<title>", "<style></"} {
			readBoth(t, s+string([]byte{byte(a)}))
			readBoth(t, s+string([]byte{byte(a), byte(255 - a)}))
			readBoth(t, string([]byte{byte(a)})+s)
		}
	}
}

func TestP1EveryByteEverywhere(t *testing.T) {
	text := "a<!--b--><p c d='&amp;'>e</p f>&notin;&#x41;</><?g><!doctype h>\r\n</1><q r=s"
	for n := range len(text) {
		readBoth(t, text[:n])
		readBoth(t, text[n:])
		for b := range 256 {
			readBoth(t, text[:n]+string([]byte{byte(b)})+text[n+1:])
		}
	}
}

func TestP1GreatTexts(t *testing.T) {
	for _, s := range []string{"<", "&", "&#", "1", "<!--", "-", "</", "<!", "\r", "\x00", "'", "a=", "<p a='", "&notin", " /"} {
		for _, first := range []string{"", "<p ", "&#", "<!--", "<p a=\""} {
			text := first + strings.Repeat(s, (api.MaxText-len(first))/len(s))
			wholeOrStopped(t, text)
		}
	}
}

// wholeOrStopped reads a text that may pass limits.
func wholeOrStopped(t *testing.T, text string) {
	t.Helper()
	p := made(t, text, api.MaxAttr)
	if err := p.Close(); err == nil {
		wholeTrail(t, text, p.Trail())
	} else if n, _ := p.Stop(); n < 0 || n > len(text) {
		t.Errorf("P4: Stop of %q = %d", text, n)
	}
}

func TestP1NoParser(t *testing.T) {
	p, _ := htmltree.New(0, 0, 0)
	if n, err := p.Write([]byte("a")); n != 0 || err != api.ErrDone {
		t.Errorf("P1: Write = %d, %v", n, err)
	}
	if err := p.Close(); err != api.ErrDone {
		t.Errorf("P1: Close = %v", err)
	}
	if n, err := p.Stop(); n != 0 || err != api.ErrDone {
		t.Errorf("P1: Stop = %d, %v", n, err)
	}
	tellsNothing(t, p)
}

func TestP1ParsersKnowNothingOfOneAnother(t *testing.T) {
	p, q := made(t, "<p>", 16), made(t, "a", 1)
	p.Write([]byte("b"))
	q.Write([]byte("</p>"))
	if err := p.Close(); err != nil {
		t.Errorf("P1: Close = %v", err)
	}
	if n, err := q.Write([]byte("<a b c>")); n != 7 || err != nil {
		t.Errorf("P1: Write = %d, %v", n, err)
	}
	if err := q.Close(); !errors.Is(err, api.ErrAttr) {
		t.Errorf("P1: Close = %v", err)
	}
	want := []api.Span{{Kind: api.Start, From: 0, To: 3}, {Kind: api.Chars, From: 3, To: 4}}
	if n, err := p.Stop(); n != 4 || err != nil || !slices.Equal(p.Trail(), want) {
		t.Errorf("P1: Stop = %d, %v, Trail = %v", n, err, p.Trail())
	}
}

func TestP2BytesAreReadAlone(t *testing.T) {
	p := made(t, "", 16)
	for _, s := range []string{"<P A='&am", "p;'>\r", "\nb<", "!-- -->"} {
		b := make([]byte, len(s), len(s)+50)
		copy(b, s)
		whole := append([]byte(s), make([]byte, 50)...)
		p.Write(b)
		if !bytes.Equal(b[:cap(b)], whole) {
			t.Errorf("P2: Write wrote into its bytes: %q", b[:cap(b)])
		}
		for i := range b {
			b[i] = '<'
		}
	}
	p.Close()
	want := []api.Span{{Kind: api.Start, From: 0, To: 13}, {Kind: api.Chars, From: 13, To: 16}, {Kind: api.Note, From: 16, To: 24}}
	if l := p.Trail(); !slices.Equal(l, want) {
		t.Errorf("P2: Trail = %v, want %v", l, want)
	}
}

func TestP2ListsAndMapsAreFresh(t *testing.T) {
	p := closed(t, "a<p>b")
	want := slices.Clone(p.Trail())
	l := p.Trail()
	clear(l)
	l = append(l[:1], api.Span{Kind: 9})
	if got := p.Trail(); len(got) != 3 || !slices.Equal(got, want) {
		t.Errorf("P2: Trail = %v, want %v", got, want)
	}
	if l := closed(t, "").Trail(); l != nil {
		t.Errorf("P2: Trail of nothing = %#v", l)
	}
	q := made(t, "", 16)
	q.Names()["p"] = 1
	if m := q.Names(); m == nil || len(m) != 0 {
		t.Errorf("P2: Names = %#v", m)
	}
}

func TestP3New(t *testing.T) {
	least, greatest := [3]int{4, 1, 1}, [3]int{64, 32, 16}
	for i := range 3 {
		for _, n := range []int{least[i] - 1, greatest[i] + 1, -1, 0, -least[i], math.MinInt, math.MaxInt, 1<<32 + least[i]} {
			for _, c := range [][3]int{least, greatest} {
				c[i] = n
				if p, err := htmltree.New(c[0], c[1], c[2]); p != nil || err != api.ErrLimit {
					t.Errorf("P3: New(%v) = %v, %v", c, p, err)
				}
			}
		}
		for _, n := range []int{least[i], least[i] + 1, greatest[i] - 1, greatest[i]} {
			for _, c := range [][3]int{least, greatest} {
				c[i] = n
				if p, err := htmltree.New(c[0], c[1], c[2]); p == nil || err != nil {
					t.Errorf("P3: New(%v) = %v, %v", c, p, err)
				}
			}
		}
	}
	p, _ := htmltree.New(4, 1, 1)
	if n, err := p.Stop(); n != 0 || err != api.ErrOpen {
		t.Errorf("P3: a new parser is closed: %d, %v", n, err)
	}
	if err := p.Close(); err != nil {
		t.Errorf("P3: Close of nothing = %v", err)
	}
	if n, err := p.Stop(); n != 0 || err != nil || p.Trail() != nil {
		t.Errorf("P3: a new parser has a text: %d, %v, %v", n, err, p.Trail())
	}
}

func TestP3Write(t *testing.T) {
	p := made(t, "", 16)
	for _, c := range []struct {
		size, n int
		err     error
	}{
		{1025, 0, api.ErrLong}, {1 << 20, 0, api.ErrLong}, {0, 0, nil}, {1000, 1000, nil}, {25, 0, api.ErrLong}, {1000, 0, api.ErrLong},
		{23, 23, nil}, {2, 0, api.ErrLong}, {1, 1, nil}, {1, 0, api.ErrLong}, {0, 0, nil},
	} {
		if n, err := p.Write(bytes.Repeat([]byte("a"), c.size)); n != c.n || err != c.err {
			t.Errorf("P3: Write of %d bytes = %d, %v, want %d, %v", c.size, n, err, c.n, c.err)
		}
	}
	p.Close()
	if n, err := p.Stop(); n != 1024 || err != nil {
		t.Errorf("P3: Stop = %d, %v: refused bytes were taken, or taken ones lost", n, err)
	}
	for _, size := range []int{0, 1, 2000} {
		if n, err := p.Write(make([]byte, size)); n != 0 || err != api.ErrDone {
			t.Errorf("P3: Write behind Close = %d, %v", n, err)
		}
	}
	made(t, strings.Repeat("b", 1024), 16)
}

func TestP3Pieces(t *testing.T) {
	text := "a<!--b-->\r\n<P c='d&notin;'>\r&am<!dOctype e></p><!-- --!></></1>"
	want := closed(t, text).Trail()
	for i := range len(text) {
		for k := i; k < len(text); k++ {
			p := made(t, text[:i], 16)
			p.Write([]byte(text[i:k]))
			p.Write([]byte(text[k:]))
			if err := p.Close(); err != nil || !slices.Equal(p.Trail(), want) {
				t.Fatalf("P3: cut at %d and %d: %v, %v, want %v", i, k, err, p.Trail(), want)
			}
		}
	}
}

func TestP4Close(t *testing.T) {
	p := made(t, "a<p>b", 16)
	if n, err := p.Stop(); n != 0 || err != api.ErrOpen {
		t.Errorf("P4: Stop of an open one = %d, %v", n, err)
	}
	tellsNothing(t, p)
	if err := p.Close(); err != nil {
		t.Errorf("P4: Close = %v", err)
	}
	for range 2 {
		if err := p.Close(); err != api.ErrDone {
			t.Errorf("P4: Close of a closed one = %v", err)
		}
		if n, err := p.Stop(); n != 5 || err != nil {
			t.Errorf("P4: Stop = %d, %v", n, err)
		}
		if l := p.Trail(); len(l) != 3 {
			t.Errorf("P4: Trail = %v", l)
		}
	}
}

func TestP4CloseAtALimit(t *testing.T) {
	p := made(t, "x</p a b>y", 1)
	said := p.Close()
	stop, ok := said.(*api.Stop)
	if !ok || stop.Err != api.ErrAttr || stop.At != 1 {
		t.Fatalf("P4: Close = %#v, want ErrAttr at 1", said)
	}
	for range 2 {
		if err := p.Close(); err != api.ErrDone {
			t.Errorf("P4: Close of a closed one = %v", err)
		}
		if n, err := p.Stop(); n != 1 || err != said {
			t.Errorf("P4: Stop = %d, %v, want 1, %v", n, err, said)
		}
		if n, err := p.Write(nil); n != 0 || err != api.ErrDone {
			t.Errorf("P4: Write = %d, %v", n, err)
		}
		tellsNothing(t, p)
	}
}

// many writes attributes of n names.
func many(n int) string {
	s := ""
	for i := range n {
		s += " " + string(rune('a'+i))
	}
	return s
}

// wrapped is an error around another.
type wrapped struct{ within error }

func (w wrapped) Error() string { return "wrapped" }
func (w wrapped) Unwrap() error { return w.within }

// posing is an error that hands out a number when it is asked for one.
type posing struct{}

func (posing) Error() string { return "posing" }
func (posing) As(to any) bool {
	if e, ok := to.(*api.Errno); ok {
		*e = api.ErrDepth
		return true
	}
	return false
}

func TestP4Number(t *testing.T) {
	var none *api.Stop
	for _, c := range []struct {
		err  error
		want api.Errno
	}{
		{nil, api.OK}, {api.ErrLimit, api.ErrLimit}, {api.ErrAttr, 7}, {api.Errno(99), 99}, {api.OK, api.OK},
		{&api.Stop{Err: api.ErrForm, At: 3}, api.ErrForm}, {wrapped{&api.Stop{Err: api.ErrDepth}}, api.ErrDepth},
		{wrapped{wrapped{api.ErrOpen}}, api.ErrOpen}, {errors.Join(errors.New("a"), api.ErrLong), api.ErrLong}, {posing{}, api.ErrDepth},
		{errors.New("a"), -1}, {wrapped{errors.New("a")}, -1}, {wrapped{nil}, -1}, {none, -1}, {wrapped{none}, -1},
	} {
		if e := htmltree.Number(c.err); e != c.want {
			t.Errorf("P4: Number(%#v) = %d, want %d", c.err, e, c.want)
		}
	}
}

func TestP5P26Trail(t *testing.T) {
	for _, c := range []struct {
		text string
		want []api.Span
	}{
		{"", nil},
		{"a", []api.Span{{Kind: 1, From: 0, To: 1}}},
		{"a<!--b--><p c>d</>", []api.Span{{Kind: 1, From: 0, To: 1}, {Kind: 4, From: 1, To: 9}, {Kind: 2, From: 9, To: 14}, {Kind: 1, From: 14, To: 15}, {Kind: 6, From: 15, To: 18}}},
		{"&amp;<&lt\x00\xff</", []api.Span{{Kind: 1, From: 0, To: 13}}},
		{"<b></b><!b><?b></0><!doctype b></><b", []api.Span{{Kind: 2, From: 0, To: 3}, {Kind: 3, From: 3, To: 7}, {Kind: 4, From: 7, To: 11}, {Kind: 4, From: 11, To: 15}, {Kind: 4, From: 15, To: 19}, {Kind: 5, From: 19, To: 31}, {Kind: 6, From: 31, To: 34}, {Kind: 6, From: 34, To: 36}}},
		{"<p><p></></><!----><!---->", []api.Span{{Kind: 2, From: 0, To: 3}, {Kind: 2, From: 3, To: 6}, {Kind: 6, From: 6, To: 9}, {Kind: 6, From: 9, To: 12}, {Kind: 4, From: 12, To: 19}, {Kind: 4, From: 19, To: 26}}},
		{"\r\n\r<p\r\n>\r\n", []api.Span{{Kind: 1, From: 0, To: 3}, {Kind: 2, From: 3, To: 8}, {Kind: 1, From: 8, To: 10}}},
		{"a</b", []api.Span{{Kind: 1, From: 0, To: 1}, {Kind: 6, From: 1, To: 4}}},
		{"a</>b", []api.Span{{Kind: 1, From: 0, To: 1}, {Kind: 6, From: 1, To: 4}, {Kind: 1, From: 4, To: 5}}},
		{"<!DOCTYPE a", []api.Span{{Kind: 5, From: 0, To: 11}}},
	} {
		for range 2 {
			if l := closed(t, c.text).Trail(); !slices.Equal(l, c.want) || (l == nil) != (c.want == nil) {
				t.Errorf("P5, P26: Trail of %q = %v, want %v", c.text, l, c.want)
			}
		}
	}
}
