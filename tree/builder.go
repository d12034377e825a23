package tree

// Builder makes a tree in the order in which its document is read.
type Builder struct {
	elements []Element
	text     []byte
	open     int
	depth    int
}

// NewBuilder gives one that has nothing yet.
func NewBuilder() *Builder { return &Builder{open: None} }

// Len tells how many elements have begun.
func (b *Builder) Len() int { return len(b.elements) }

// Depth tells how many elements are open.
func (b *Builder) Depth() int { return b.depth }

// Open tells the name of the innermost element that is open, if one is.
func (b *Builder) Open() (string, bool) {
	if b.open == None {
		return "", false
	}
	return b.elements[b.open].Name, true
}

// Text adds a text.
func (b *Builder) Text(text string) { b.text = append(b.text, text...) }

// Begin opens an element, in the one that is open.
func (b *Builder) Begin(name string, attributes []Attribute) {
	b.elements = append(b.elements, Element{
		Name:       name,
		Parent:     b.open,
		Attributes: attributes,
		TextFrom:   len(b.text),
	})
	b.open = len(b.elements) - 1
	b.depth++
}

// End closes the innermost element that is open.
func (b *Builder) End() {
	if b.open == None {
		return
	}
	b.elements[b.open].TextTo = len(b.text)
	b.open = b.elements[b.open].Parent
	b.depth--
}

// Tree gives what was built; no element is open any more.
func (b *Builder) Tree() *Tree {
	return &Tree{Elements: b.elements, Text: string(b.text)}
}
