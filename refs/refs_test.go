package refs

import (
	"strconv"
	"strings"
	"testing"
)

// either are the names that need no ";".
var either = map[string]string{
	"AMP": "&", "amp": "&", "lt": "<", "gt": ">", "quot": "\"", "nbsp": "\u00a0",
	"copy": "©", "not": "¬", "para": "¶", "times": "×",
}

// closed are the names that need one.
var closed = map[string]string{
	"apos": "'", "copysr": "℗", "notin": "∉", "notni": "∌", "notinE": "\u22f9\u0338",
	"par": "∥", "timesb": "⊠", "bne": "=\u20e5", "Tab": "\t", "NewLine": "\n",
}

func check(t *testing.T, s string, inValue bool, want string, size int) {
	t.Helper()
	if got, n := New().Read(s, inValue); got != want || n != size {
		t.Errorf("P9: Read(%q, %v) = %q, %d, want %q, %d", s, inValue, got, n, want, size)
	}
}

func TestNamesWithAndWithoutSemicolon(t *testing.T) {
	for name, text := range either {
		for _, inValue := range []bool{false, true} {
			check(t, "&"+name+";", inValue, text, len(name)+2)
			check(t, "&"+name+";x", inValue, text, len(name)+2)
			check(t, "&"+name, inValue, text, len(name)+1)
			check(t, "&"+name+" ", inValue, text, len(name)+1)
			check(t, "&"+name+"\xc3", inValue, text, len(name)+1)
		}
		for _, behind := range []string{"=", "Z", "z", "0", "9"} {
			check(t, "&"+name+behind, false, text, len(name)+1)
			check(t, "&"+name+behind, true, "", 0)
			check(t, "&"+name+";"+behind, true, text, len(name)+2)
		}
	}
}

func TestNamesWithSemicolonAlone(t *testing.T) {
	for name, text := range closed {
		for _, inValue := range []bool{false, true} {
			check(t, "&"+name+";=", inValue, text, len(name)+2)
		}
		check(t, "&"+name, true, "", 0)
	}
	for _, name := range []string{"apos", "par", "bne", "Tab", "NewLine"} {
		check(t, "&"+name, false, "", 0)
	}
}

func TestTheLongestName(t *testing.T) {
	check(t, "&notit;", false, "¬", 4)
	check(t, "&notin;", false, "∉", 7)
	check(t, "&notinE", false, "¬", 4)
	check(t, "&notinE;", false, "\u22f9\u0338", 8)
	check(t, "&copysr", false, "©", 5)
	check(t, "&para;", false, "¶", 6)
	check(t, "&parab", false, "¶", 5)
	check(t, "&timesb", false, "×", 6)
	check(t, "&notit;", true, "", 0)
	check(t, "&copysr=", true, "", 0)
}

func TestNoReference(t *testing.T) {
	for _, s := range []string{"", "&", "&;", "&#", "&#;", "&#x", "&#x;", "&#X;", "&#xg", "&#a", "&# 1", "&x", "&Amp;", "&LT;", "& amp;", "&&amp;", "&#-1;", "&\x00", "amp;", "a"} {
		check(t, s, false, "", 0)
		check(t, s, true, "", 0)
	}
}

func TestNumbers(t *testing.T) {
	for _, c := range []struct {
		s, want string
		size    int
	}{
		{"&#65;", "A", 5}, {"&#65", "A", 4}, {"&#65x", "A", 4}, {"&#x41;", "A", 6}, {"&#X41", "A", 5}, {"&#xe9", "é", 5}, {"&#xEg", "\x0e", 4},
		{"&#065;;", "A", 6}, {"&#13;", "\r", 5}, {"&#9", "\t", 3},
		{"&#0;", "\uFFFD", 4}, {"&#x00", "\uFFFD", 5},
		{"&#xD7FF;", "\uD7FF", 8}, {"&#xD800;", "\uFFFD", 8}, {"&#xDfFf;", "\uFFFD", 8}, {"&#xE000;", "\uE000", 8},
		{"&#x10FFFF;", "\U0010FFFF", 10}, {"&#x110000;", "\uFFFD", 10}, {"&#1114111;", "\U0010FFFF", 10}, {"&#1114112;", "\uFFFD", 10},
		{"&#18446744073709551681;", "\uFFFD", 23}, {"&#x10000000000000041;", "\uFFFD", 21},
		{"&#" + strings.Repeat("9", 900), "\uFFFD", 902}, {"&#" + strings.Repeat("0", 900) + "65", "A", 904},
	} {
		check(t, c.s, false, c.want, c.size)
		check(t, c.s, true, c.want, c.size)
	}
	check(t, "&#65=", true, "A", 4)
	check(t, "&#65z", true, "A", 4)
}

func TestNumbersOfTheOldCodePage(t *testing.T) {
	want := map[int]string{128: "€", 133: "…", 145: "‘", 146: "’", 147: "“", 148: "”", 150: "–", 151: "—", 153: "™"}
	for n := 127; n <= 160; n++ {
		text, other := want[n]
		if !other {
			text = string(rune(n))
		}
		check(t, "&#"+strconv.Itoa(n)+";", false, text, 6)
		check(t, "&#x"+strconv.FormatInt(int64(n), 16), false, text, 5)
	}
}

func TestValue(t *testing.T) {
	for s, want := range map[string]string{
		"": "", "a": "a", "&": "&", "&amp;lt;": "&lt;", "?a=1&copy=2&amp=3&lt": "?a=1&copy=2&amp=3<", "&#65&#x42;&": "AB&",
		"&notit;&notin;": "&notit;∉", "\xff&gt;\x00": "\xff>\x00",
	} {
		if got := New().Value(s); got != want {
			t.Errorf("P9: Value(%q) = %q, want %q", s, got, want)
		}
	}
}
