package copse

import (
	"errors"
	"slices"
	"strings"
	"testing"

	"copse/api"
)

const example = `<ul id="a"><LI class="x y">one</li><li>t&amp;wo<br></li></ul>`

const exampleSelector = "ul#A > li.x_Y:nth-child( -2n + 03 ) ~ *:not( a , B[C ^= \"d e\" i]:is(:empty, #f)) , :root[g=h]+i j"

const longName = "abcdefghijklmnop" // as long as a name may be

func mustParse(t *testing.T, text string) *Doc {
	t.Helper()
	d, err := Parse(text)
	if d == nil || err != nil {
		t.Fatalf("Parse(%.200q) = %v, %v; want a document", text, d, err)
	}
	return d
}

func mustCompile(t *testing.T, text string) *Selector {
	t.Helper()
	s, err := Compile(text)
	if s == nil || err != nil {
		t.Fatalf("Compile(%.200q) = %v, %v; want a selector", text, s, err)
	}
	return s
}

// refused checks that the text is refused so, with no document beside it.
func refused(t *testing.T, text string, code api.Errno, place int) {
	t.Helper()
	d, err := Parse(text)
	if d != nil {
		t.Errorf("Parse(%.200q) = %v, %v; want no document", text, d, err)
	}
	checkFault(t, text, err, code, place)
}

// notCompiled checks that the text is refused so, with no selector beside it.
func notCompiled(t *testing.T, text string, code api.Errno, place int) {
	t.Helper()
	s, err := Compile(text)
	if s != nil {
		t.Errorf("Compile(%.200q) = %v, %v; want no selector", text, s, err)
	}
	checkFault(t, text, err, code, place)
}

func checkFault(t *testing.T, text string, err error, code api.Errno, place int) {
	t.Helper()
	var fault *api.Fault
	if !errors.As(err, &fault) {
		t.Errorf("%.200q: no fault in %v; want code %d at %d", text, err, code, place)
		return
	}
	if fault.Code != code || fault.Place != place {
		t.Errorf("%.200q: code %d at %d; want %d at %d", text, fault.Code, fault.Place, code, place)
	}
	for _, other := range []api.Errno{api.ErrLong, api.ErrSyntax, api.ErrLimit} {
		if errors.Is(err, other) != (other == code) {
			t.Errorf("%.200q: errors.Is of %d is %v", text, other, errors.Is(err, other))
		}
	}
}

func nested(name string, depth int, inside string) string {
	return strings.Repeat("<"+name+">", depth) + inside + strings.Repeat("</"+name+">", depth)
}

// within lays a selector in that many lists.
func within(opening string, depth int, inside string) string {
	return strings.Repeat(opening, depth) + inside + strings.Repeat(")", depth)
}

// element is all that is told of one.
type element struct {
	name   string
	parent int
	text   string
}

func elementsOf(d *Doc) []element {
	var all []element
	for n := range d.Len() {
		all = append(all, element{d.Name(n), d.Parent(n), d.Text(n)})
	}
	return all
}

func checkElements(t *testing.T, text string, want ...element) {
	t.Helper()
	if got := elementsOf(mustParse(t, text)); !slices.Equal(got, want) {
		t.Errorf("elements of %q: %v; want %v", text, got, want)
	}
}

func checkAttr(t *testing.T, d *Doc, n int, name, value string, there bool) {
	t.Helper()
	if v, ok := d.Attr(n, name); v != value || ok != there {
		t.Errorf("Attr(%d, %q) = %q, %v; want %q, %v", n, name, v, ok, value, there)
	}
}
