// Package names: elements' names: the classes they are of, and questions about them.
package names

import (
	"slices"
	"strings"
)

// Class is a set of names; one name may be of several.
type Class int

const (
	Void Class = 1 << iota
	Special
	Implied
	Bounds
)

const (
	void    = "br hr img input meta col"
	special = "html head title style meta body p div h1 h2 ul dl li dd dt pre form button input br hr img " +
		"table caption colgroup col tbody thead tfoot tr td th object select textarea"
	implied = "dd dt li option optgroup p"
	bounds  = "html table td th caption object"
)

// Classes tells of names of which classes they are.
type Classes struct{ of map[string]Class }

// NewClasses makes the classes that the document names.
func NewClasses() Classes {
	c := Classes{of: map[string]Class{}}
	c.add(Void, void)
	c.add(Special, special)
	c.add(Implied, implied)
	c.add(Bounds, bounds)
	return c
}

func (c Classes) add(class Class, names string) {
	for _, name := range strings.Fields(names) {
		c.of[name] |= class
	}
}

// Ask is a question about a name.
type Ask func(name string) bool

// Are makes the question whether a name is of a class.
func (c Classes) Are(class Class) Ask {
	return func(name string) bool { return c.of[name]&class != 0 }
}

// Is makes the question whether a name is one of some.
func Is(some ...string) Ask {
	return func(name string) bool { return slices.Contains(some, name) }
}

// Or makes the question whether one of two says true.
func (a Ask) Or(other Ask) Ask {
	return func(name string) bool { return a(name) || other(name) }
}

// But makes the question whether this one says true, and the other does not.
func (a Ask) But(other Ask) Ask {
	return func(name string) bool { return a(name) && !other(name) }
}

// Not makes the question whether another says false.
func Not(a Ask) Ask {
	return func(name string) bool { return !a(name) }
}
