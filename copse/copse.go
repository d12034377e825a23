// Package copse: finding elements in a tree: see DOC.md.
package copse

import (
	"copse/find"
	"copse/markup"
	"copse/scan"
	"copse/selector"
	"copse/tree"
)

// Doc is a document.
type Doc struct{ tree tree.Tree }

// Selector says which elements are meant.
type Selector struct{ list selector.List }

// Parse reads a document (P3).
func Parse(text string) (*Doc, error) {
	read, err := markup.Read(text)
	if err != nil {
		return nil, &refusal{scan.While("document", err)}
	}
	return &Doc{tree: *read}, nil
}

// Compile reads a selector (P3).
func Compile(text string) (*Selector, error) {
	read, err := selector.Read(text)
	if err != nil {
		return nil, &refusal{scan.While("selector", err)}
	}
	return &Selector{list: read}, nil
}

// Len tells how many elements there are (P4).
func (d *Doc) Len() int { return len(d.tree.Elements) }

// Name tells an element's name (P4).
func (d *Doc) Name(n int) string { return d.tree.Name(n) }

// Parent tells an element's parent (P4).
func (d *Doc) Parent(n int) int { return d.tree.Parent(n) }

// Attr tells an element's attribute (P4).
func (d *Doc) Attr(n int, name string) (string, bool) {
	return d.tree.Attribute(n, scan.Small(name))
}

// Text tells an element's text (P4).
func (d *Doc) Text(n int) string { return d.tree.TextOf(n) }

// Write writes the document in one way (P5).
func (d *Doc) Write() string { return markup.Write(&d.tree) }

// Write writes the selector in one way (P6).
func (s *Selector) Write() string { return selector.Write(s.list) }

// All tells all elements that are meant (P7).
func (d *Doc) All(s *Selector) []int { return find.All(&d.tree, s.list) }

// First tells the first of them (P7).
func (d *Doc) First(s *Selector) int { return find.First(&d.tree, s.list) }

// Is tells whether an element is meant (P7).
func (d *Doc) Is(n int, s *Selector) bool { return find.Is(&d.tree, s.list, n) }

// Closest tells the first one that is meant, from an element outwards (P7).
func (d *Doc) Closest(n int, s *Selector) int { return find.Closest(&d.tree, s.list, n) }
