package markup

import (
	"strings"

	"copse/tree"
)

const (
	notInText  = "&<>"
	notInValue = "&<\""
)

// A writer has written all texts up to a place, and the beginnings of all elements around the open one.
type writer struct {
	tree    *tree.Tree
	out     strings.Builder
	written int
	open    int
}

// Write writes the tree's document, in one way.
func Write(t *tree.Tree) string {
	w := &writer{tree: t, open: tree.None}
	for n, e := range t.Elements {
		w.closeUpTo(e.Parent)
		w.textUpTo(e.TextFrom)
		w.begin(e)
		w.open = n
	}
	w.closeUpTo(tree.None)
	w.textUpTo(len(t.Text))
	return w.out.String()
}

func (w *writer) closeUpTo(around int) {
	for w.open != around {
		e := w.tree.Elements[w.open]
		w.textUpTo(e.TextTo)
		if !isVoid(e.Name) {
			w.out.WriteString("</" + e.Name + ">")
		}
		w.open = e.Parent
	}
}

func (w *writer) textUpTo(place int) {
	w.escaped(w.tree.Text[w.written:place], notInText)
	w.written = place
}

func (w *writer) begin(e tree.Element) {
	w.out.WriteString("<" + e.Name)
	for _, a := range e.Attributes {
		w.out.WriteString(" " + a.Name + "=\"")
		w.escaped(a.Value, notInValue)
		w.out.WriteString("\"")
	}
	w.out.WriteString(">")
}

func (w *writer) escaped(text, special string) {
	for i := range len(text) {
		w.out.WriteString(spelled(text[i:i+1], special))
	}
}

// spelled gives how one byte is written: as a reference, if it is special here.
func spelled(one, special string) string {
	for _, known := range references {
		if one[0] == known.meant && strings.Contains(special, one) {
			return "&" + known.written
		}
	}
	return one
}
