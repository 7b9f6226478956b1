package names

import (
	"slices"
	"strings"
	"testing"
)

// all are the names that the document's classes have, and some that none has.
const all = void + " " + special + " " + implied + " " + bounds + " span em a b i nobr u x htm HTML P"

// heard tells the names of which a question says true, each once, by the alphabet.
func heard(ask Ask) string {
	var l []string
	for _, name := range strings.Fields(all) {
		if ask(name) {
			l = append(l, name)
		}
	}
	slices.Sort(l)
	return strings.Join(slices.Compact(l), " ")
}

func TestClasses(t *testing.T) {
	c := NewClasses()
	for _, x := range []struct {
		class Class
		want  string
	}{
		{Void, "br col hr img input meta"},
		{Special, "body br button caption col colgroup dd div dl dt form h1 h2 head hr html img input li meta object p pre select style table tbody td textarea tfoot th thead title tr ul"},
		{Implied, "dd dt li optgroup option p"},
		{Bounds, "caption html object table td th"},
	} {
		if got := heard(c.Are(x.class)); got != x.want {
			t.Errorf("class %d is %q, want %q", x.class, got, x.want)
		}
	}
	for _, name := range []string{"", " ", "br hr", "p ", "html\x00"} {
		if c.Are(Void | Special | Implied | Bounds)(name) {
			t.Errorf("%q is of a class", name)
		}
	}
}

func TestQuestions(t *testing.T) {
	c := NewClasses()
	for _, x := range []struct {
		ask  Ask
		want string
	}{
		{Is(), ""},
		{Is("p"), "p"},
		{Is("p", "x", "nowhere"), "p x"},
		{Is("li").Or(Is("ul")), "li ul"},
		{c.Are(Implied).But(Is("p")), "dd dt li optgroup option"},
		{c.Are(Implied).But(Is("")), "dd dt li optgroup option p"},
		{c.Are(Void).But(c.Are(Special)), ""},
		{c.Are(Bounds).But(Not(Is("td", "x"))), "td"},
		{Not(c.Are(Special)).But(c.Are(Implied)), "HTML P a b em htm i nobr span u x"},
		{c.Are(Bounds).Or(Is("button")).But(Is("html")), "button caption object table td th"},
	} {
		if got := heard(x.ask); got != x.want {
			t.Errorf("said of %q, want %q", got, x.want)
		}
	}
}
