// Package refs: what references stand for (P9).
package refs

import (
	"strings"

	"htmltree/chars"
)

// meaning is what a name stands for.
type meaning struct{ text string }

// Names knows the references that have names.
type Names struct {
	meanings map[string]meaning // by the names, without the & and with the ; where they have one
	longest  int                // how long the longest name is
}

// New makes the names.
func New() Names {
	n := Names{meanings: map[string]meaning{
		"apos;": {"'"}, "copysr;": {"\u2117"}, "notin;": {"\u2209"}, "notni;": {"\u220C"}, "notinE;": {"\u22F9\u0338"},
		"par;": {"\u2225"}, "timesb;": {"\u22A0"}, "bne;": {"=\u20E5"}, "Tab;": {"\t"}, "NewLine;": {"\n"},
	}}
	for _, x := range []struct{ name, text string }{
		{"AMP", "&"}, {"amp", "&"}, {"lt", "<"}, {"gt", ">"}, {"quot", "\""}, {"nbsp", "\u00A0"},
		{"copy", "\u00A9"}, {"not", "\u00AC"}, {"para", "\u00B6"}, {"times", "\u00D7"},
	} {
		n.meanings[x.name] = meaning{x.text}
		n.meanings[x.name+";"] = meaning{x.text}
	}
	for name := range n.meanings {
		n.longest = max(n.longest, len(name))
	}
	return n
}

// Read tells what the reference stands for that s begins with, and how many characters it has: 0, if s begins with none.
func (n Names) Read(s string, inValue bool) (string, int) {
	switch {
	case strings.HasPrefix(s, "&#"):
		return readNumber(s)
	case strings.HasPrefix(s, "&"):
		return n.readName(s, inValue)
	}
	return "", 0
}

// Value tells a value as it is meant: with what its references stand for.
func (n Names) Value(s string) string {
	var b strings.Builder
	for s != "" {
		text, size := n.Read(s, true)
		if size == 0 {
			text, size = s[:1], 1
		}
		b.WriteString(text)
		s = s[size:]
	}
	return b.String()
}

func (n Names) readName(s string, inValue bool) (string, int) {
	for size := min(n.longest, len(s)-1); size > 0; size-- {
		m, ok := n.meanings[s[1:1+size]]
		if !ok {
			continue
		}
		// Queries in addresses are full of "&copy=1": there nothing is meant, by a shorter name neither.
		if inValue && s[size] != ';' && goesOn(s[1+size:]) {
			return "", 0
		}
		return m.text, 1 + size
	}
	return "", 0
}

// goesOn: what is behind a name makes it a piece of something else.
func goesOn(s string) bool {
	return s != "" && (s[0] == '=' || chars.Letter(s[0]) || chars.Digit(s[0]))
}

func readNumber(s string) (string, int) {
	first, base := len("&#"), 10
	if first < len(s) && (s[first] == 'x' || s[first] == 'X') {
		first, base = first+1, 16
	}
	number, end := 0, first
	for ; end < len(s); end++ {
		d := digit(s[end])
		if d >= base {
			break
		}
		number = min(number*base+d, tooGreat) // digits without end would wrap round
	}
	if end == first {
		return "", 0
	}
	if end < len(s) && s[end] == ';' {
		end++
	}
	return string(codePoint(number)), end
}

// noDigit is no digit to any base.
const noDigit = 99

// digit tells what a digit to the base 16 is worth.
func digit(c byte) int {
	switch {
	case chars.Digit(c):
		return int(c - '0')
	case 'a' <= c && c <= 'f':
		return int(c-'a') + 10
	case 'A' <= c && c <= 'F':
		return int(c-'A') + 10
	}
	return noDigit
}

// tooGreat is the least number that is above all code points.
const tooGreat = 0x110000

// codePoint tells what a number stands for: some of 128 to 159 are meant as in an old code page.
func codePoint(number int) rune {
	switch {
	case number == 0, 0xD800 <= number && number <= 0xDFFF, number >= tooGreat:
		return 0xFFFD
	}
	switch number {
	case 128:
		return 0x20AC
	case 133:
		return 0x2026
	case 145:
		return 0x2018
	case 146:
		return 0x2019
	case 147:
		return 0x201C
	case 148:
		return 0x201D
	case 150:
		return 0x2013
	case 151:
		return 0x2014
	case 153:
		return 0x2122
	}
	return rune(number)
}
