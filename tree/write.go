package tree

import (
	"strings"

	"htmltree/api"
	"htmltree/names"
)

// Written is what the element holds, written.
func (e *Element) Written() string {
	w := &writer{void: names.NewClasses().Are(names.Void)}
	e.VisitChildren(w)
	return w.out.String()
}

// writer writes what a visitor is told.
type writer struct {
	out  strings.Builder
	void names.Ask
	asIs bool // what is told is the text of a style
}

func (w *writer) write(s ...string) {
	for _, x := range s {
		w.out.WriteString(x)
	}
}

func (w *writer) Doctype(name string) { w.write("<!DOCTYPE ", name, ">") }
func (w *writer) Comment(text string) { w.write("<!--", text, "-->") }

func (w *writer) Text(text string) {
	if w.asIs {
		w.write(text)
		return
	}
	s := strings.ReplaceAll(escaped(text), "<", "&lt;")
	w.write(strings.ReplaceAll(s, ">", "&gt;"))
}

// Enter: a void element has no end tag, and holds nothing.
func (w *writer) Enter(name string, attrs []api.Attribute) bool {
	w.write("<", name)
	for _, a := range attrs {
		w.write(" ", a.Name, `="`, strings.ReplaceAll(escaped(a.Value), `"`, "&quot;"), `"`)
	}
	w.write(">")
	w.asIs = name == "style"
	return !w.void(name)
}

func (w *writer) Leave(name string) {
	w.asIs = false
	w.write("</", name, ">")
}

// escaped: what texts and values have in common; the ampersands first, as the others bring some in.
func escaped(s string) string {
	s = strings.ReplaceAll(s, "&", "&amp;")
	return strings.ReplaceAll(s, "\u00a0", "&nbsp;")
}
