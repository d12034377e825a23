// Package tree holds the elements of a document.
package tree

// None is the number of no element.
const None = -1

// Attribute of an element; its name is in small letters.
type Attribute struct {
	Name  string
	Value string
}

// Element of a tree. The texts in it are one piece of the tree's text, since all texts stand there in order.
type Element struct {
	Name       string
	Parent     int
	Attributes []Attribute
	TextFrom   int
	TextTo     int
}

// Tree has its elements in the order in which they begin, and all its texts as one.
type Tree struct {
	Elements []Element
	Text     string
}

// Has tells whether the number is an element's.
func (t *Tree) Has(n int) bool { return n >= 0 && n < len(t.Elements) }

// Name tells an element's name.
func (t *Tree) Name(n int) string {
	if !t.Has(n) {
		return ""
	}
	return t.Elements[n].Name
}

// Parent tells the element that an element lies in at once.
func (t *Tree) Parent(n int) int {
	if !t.Has(n) {
		return None
	}
	return t.Elements[n].Parent
}

// Before tells the sibling just ahead of an element. Siblings begin behind their parent.
func (t *Tree) Before(n int) int {
	parent := t.Parent(n)
	for m := n - 1; t.Has(n) && m > parent; m-- {
		if t.Elements[m].Parent == parent {
			return m
		}
	}
	return None
}

// Behind tells the sibling just behind an element.
func (t *Tree) Behind(n int) int {
	for m := n + 1; t.Has(n) && t.Has(m); m++ {
		if t.Elements[m].Parent == t.Elements[n].Parent {
			return m
		}
	}
	return None
}

// HasElement tells whether an element lies in that one: the first such one begins next.
func (t *Tree) HasElement(n int) bool { return t.Has(n) && t.Parent(n+1) == n }

// Attribute tells the value of an element's attribute, asked for in small letters.
func (t *Tree) Attribute(n int, name string) (string, bool) {
	if !t.Has(n) {
		return "", false
	}
	for _, a := range t.Elements[n].Attributes {
		if a.Name == name {
			return a.Value, true
		}
	}
	return "", false
}

// TextOf tells all texts in an element.
func (t *Tree) TextOf(n int) string {
	if !t.Has(n) {
		return ""
	}
	e := t.Elements[n]
	return t.Text[e.TextFrom:e.TextTo]
}
