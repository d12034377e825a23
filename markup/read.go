package markup

import (
	"errors"
	"strings"

	"copse/api"
	"copse/scan"
	"copse/tree"
)

type reader struct {
	*scan.Reader
	built *tree.Builder
}

// Read reads a document.
func Read(text string) (*tree.Tree, error) {
	if len(text) > api.MaxText {
		return nil, &api.Fault{Code: api.ErrLong}
	}
	r := reader{scan.NewReader(text), tree.NewBuilder()}
	if err := r.pieces(); err != nil {
		return nil, err
	}
	return r.built.Tree(), nil
}

func (r reader) pieces() error {
	var limit error
	for !r.Done() {
		err := r.piece()
		switch {
		case errors.Is(err, api.ErrLimit):
			// What comes may be no document at all, which is told rather than this.
			limit = err
		case err != nil:
			return err
		}
	}
	if name, open := r.built.Open(); open {
		return scan.While("element "+name, r.Fail())
	}
	return limit
}

func (r reader) piece() error {
	if !r.Take('<') {
		return scan.While("text", r.text())
	}
	switch r.Peek() {
	case '!':
		return scan.While("comment", r.comment())
	case '/':
		return scan.While("end", r.end())
	}
	return r.begin()
}

func (r reader) text() error {
	text, err := r.content("<>")
	if err != nil {
		return err
	}
	if text == "" {
		return r.Fail()
	}
	r.built.Text(text)
	return nil
}

// content takes bytes and references, up to one of the bytes that end it.
func (r reader) content(ends string) (string, error) {
	var content []byte
	for {
		b := r.Peek()
		if b == scan.Nothing || strings.IndexByte(ends, b) >= 0 {
			return string(content), nil
		}
		r.Skip()
		if b == '&' {
			meant, err := r.reference()
			if err != nil {
				return "", scan.While("reference", err)
			}
			b = meant
		}
		content = append(content, b)
	}
}

func (r reader) reference() (byte, error) {
	for _, known := range references {
		if r.Peek() == known.written[0] {
			return known.meant, r.Expect(known.written)
		}
	}
	return scan.Nothing, r.Fail()
}

func (r reader) comment() error {
	if err := r.Expect("!--"); err != nil {
		return err
	}
	for {
		if r.Take('-') && r.Take('-') {
			return r.Expect(">")
		}
		if r.Peek() == scan.Nothing {
			return r.Fail()
		}
		r.Skip()
	}
}

func (r reader) end() error {
	name, open := r.built.Open()
	if !open {
		return r.Fail()
	}
	if err := r.Expect("/"); err != nil {
		return err
	}
	if err := r.ExpectName(name); err != nil {
		return err
	}
	r.Spaces()
	if err := r.Expect(">"); err != nil {
		return err
	}
	r.built.End()
	return nil
}

func (r reader) begin() error {
	name, err := r.Name()
	if err != nil {
		return scan.While("name", err)
	}
	return scan.While("element "+name, r.element(name))
}

func (r reader) element(name string) error {
	attributes, err := r.attributes()
	if err != nil {
		return err
	}
	whole := r.Take('/')
	if err := r.Expect(">"); err != nil {
		return err
	}
	tooLarge := r.built.Len() >= api.MaxElements || r.built.Depth() >= api.MaxDepth
	r.built.Begin(name, attributes)
	if whole || isVoid(name) {
		r.built.End()
	}
	if tooLarge {
		return &api.Fault{Code: api.ErrLimit}
	}
	return nil
}

func (r reader) attributes() ([]tree.Attribute, error) {
	var attributes []tree.Attribute
	for r.Spaces() && r.Peek() != '/' && r.Peek() != '>' {
		a, err := r.attribute(attributes)
		if err != nil {
			return nil, scan.While("attribute", err)
		}
		attributes = append(attributes, a)
	}
	return attributes, nil
}

func (r reader) attribute(before []tree.Attribute) (tree.Attribute, error) {
	name, err := r.NewName(func(name string) bool { return hasName(before, name) })
	if err != nil {
		return tree.Attribute{}, scan.While("name", err)
	}
	if !r.Take('=') {
		return tree.Attribute{Name: name}, nil
	}
	value, err := r.value()
	if err != nil {
		return tree.Attribute{}, scan.While("value of "+name, err)
	}
	return tree.Attribute{Name: name, Value: value}, nil
}

func hasName(attributes []tree.Attribute, name string) bool {
	for _, a := range attributes {
		if a.Name == name {
			return true
		}
	}
	return false
}

func (r reader) value() (string, error) {
	if err := r.Expect("\""); err != nil {
		return "", err
	}
	value, err := r.content("<\"")
	if err != nil {
		return "", err
	}
	return value, r.Expect("\"")
}
