package chars

import (
	"slices"
	"testing"
)

func TestFrom(t *testing.T) {
	for _, c := range []struct {
		text, want string
		at         []int
	}{
		{"", "", []int{0}},
		{"ab", "ab", []int{0, 1, 2}},
		{"a\r\nb", "a\nb", []int{0, 1, 3, 4}},
		{"\r", "\n", []int{0, 1}},
		{"\r\r\n\n", "\n\n\n", []int{0, 1, 3, 4}},
		{"\n\r", "\n\n", []int{0, 1, 2}},
		{"\xc3\xa9\xff\x00", "\xc3\xa9\xff\x00", []int{0, 1, 2, 3, 4}},
	} {
		s, at := From([]byte(c.text))
		if s != c.want || !slices.Equal(at, c.at) {
			t.Errorf("From(%q) = %q, %v, want %q, %v", c.text, s, at, c.want, c.at)
		}
	}
}

func TestClasses(t *testing.T) {
	for c := range 256 {
		b := byte(c)
		letter := b >= 'A' && b <= 'Z' || b >= 'a' && b <= 'z'
		if Letter(b) != letter {
			t.Errorf("Letter(%q) = %v", b, !letter)
		}
		if digit := b >= '0' && b <= '9'; Digit(b) != digit {
			t.Errorf("Digit(%q) = %v", b, !digit)
		}
		blank := b == 32 || b == 9 || b == 10 || b == 12
		if OneOf(Blanks)(b) != blank || Not(OneOf(Blanks))(b) == blank {
			t.Errorf("blank %q: want %v", b, blank)
		}
	}
}

func TestSmall(t *testing.T) {
	if s := Small("AZaz@[É\xff\x00İ"); s != "azaz@[É\xff\x00İ" {
		t.Errorf("Small = %q", s)
	}
}

func TestNoNul(t *testing.T) {
	if s := NoNul("\x00a\x00\xff"); s != "\uFFFDa\uFFFD\xff" {
		t.Errorf("NoNul = %q", s)
	}
}
