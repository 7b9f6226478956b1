// Package chars: what a text is made of: characters, blanks, letters.
package chars

import "strings"

// Blanks are all the blanks there are. (A carriage return is none: From leaves none in a text.)
const Blanks = " \t\n\f"

// Letter: c is a letter of ASCII.
func Letter(c byte) bool { return 'a' <= c && c <= 'z' || 'A' <= c && c <= 'Z' }

// Digit: c is a digit to the base 10.
func Digit(c byte) bool { return '0' <= c && c <= '9' }

// OneOf makes the question whether a character is one of a set.
func OneOf(set string) func(c byte) bool {
	return func(c byte) bool { return strings.IndexByte(set, c) >= 0 }
}

// Not makes the opposite question.
func Not(ask func(c byte) bool) func(c byte) bool {
	return func(c byte) bool { return !ask(c) }
}

// Small turns capitals into small letters. (strings.ToLower would turn letters beyond ASCII, too, and bytes that are no UTF-8.)
func Small(s string) string {
	b := []byte(s)
	for i, c := range b {
		if 'A' <= c && c <= 'Z' {
			b[i] = c - 'A' + 'a'
		}
	}
	return string(b)
}

// NoNul puts U+FFFD in place of each NUL.
func NoNul(s string) string { return strings.ReplaceAll(s, "\x00", "\uFFFD") }

// From tells the characters of a text, and of each the byte of the text at which it begins; behind these how many bytes the text has.
func From(text []byte) (string, []int) {
	var b []byte
	var at []int
	for i, c := range text {
		if c == '\n' && i > 0 && text[i-1] == '\r' {
			continue // it was told with the carriage return ahead of it
		}
		if c == '\r' {
			c = '\n'
		}
		b = append(b, c)
		at = append(at, i)
	}
	return string(b), append(at, len(text))
}
