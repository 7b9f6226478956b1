package tree

import "htmltree/api"

// Items tells what is met on a walk through what the element holds, until yield says false.
func (e *Element) Items(yield func(api.Item) bool) { e.VisitChildren(&walker{yield: yield}) }

// walker hands on what a visitor is told as items.
type walker struct {
	yield func(api.Item) bool
	ended bool // yield said false: it must not be called again
}

func (w *walker) tell(kind int, s, t string) {
	if !w.ended {
		w.ended = !w.yield(api.Item{Kind: kind, S: s, T: t})
	}
}

func (w *walker) Doctype(name string) { w.tell(api.Doctype, name, "") }
func (w *walker) Comment(text string) { w.tell(api.Comment, text, "") }
func (w *walker) Text(text string)    { w.tell(api.Text, text, "") }
func (w *walker) Leave(name string)   { w.tell(api.Leave, name, "") }

func (w *walker) Enter(name string, attrs []api.Attribute) bool {
	w.tell(api.Enter, name, "")
	for _, a := range attrs {
		w.tell(api.Attr, a.Name, a.Value)
	}
	return !w.ended
}
