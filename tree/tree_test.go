package tree

import (
	"math"
	"testing"
)

// built is <a x="1">p<b>q</b>r</a>s.
func built() *Tree {
	b := NewBuilder()
	b.Begin("a", []Attribute{{"x", "1"}})
	b.Text("p")
	b.Begin("b", nil)
	b.Text("q")
	b.End()
	b.Text("r")
	b.End()
	b.Text("s")
	return b.Tree()
}

func TestTreeTellsWhatWasBuilt(t *testing.T) {
	tr := built()
	for n, want := range []struct {
		name   string
		parent int
		text   string
		value  string
		there  bool
	}{{"a", None, "pqr", "1", true}, {"b", 0, "q", "", false}} {
		value, there := tr.Attribute(n, "x")
		if tr.Name(n) != want.name || tr.Parent(n) != want.parent || tr.TextOf(n) != want.text || value != want.value || there != want.there {
			t.Errorf("element %d: %q, %d, %q, %q, %v", n, tr.Name(n), tr.Parent(n), tr.TextOf(n), value, there)
		}
	}
	if tr.Text != "pqrs" || len(tr.Elements) != 2 {
		t.Errorf("%d elements, with the text %q", len(tr.Elements), tr.Text)
	}
}

func TestTreeTellsNothingOfNoElement(t *testing.T) {
	tr := built()
	for _, n := range []int{math.MinInt, -1, 2, math.MaxInt} {
		value, there := tr.Attribute(n, "x")
		if tr.Has(n) || tr.Name(n) != "" || tr.Parent(n) != None || tr.TextOf(n) != "" || value != "" || there || tr.Before(n) != None || tr.Behind(n) != None || tr.HasElement(n) {
			t.Errorf("of %d something is told", n)
		}
	}
}

func TestTreeTellsWhatLiesAround(t *testing.T) {
	b := NewBuilder() // 0: (1: (2), 3: (4, 5), 6), 7, 8: (9)
	for _, what := range "((())(()())())()(())" {
		if what == '(' {
			b.Begin("p", nil)
		} else {
			b.End()
		}
	}
	tr := b.Tree()
	for n, want := range []struct {
		before, behind int
		has            bool
	}{
		{None, 7, true}, {None, 3, true}, {None, None, false}, {1, 6, true}, {None, 5, false}, {4, None, false}, {3, None, false}, {0, 8, false}, {7, None, true}, {None, None, false},
	} {
		if tr.Before(n) != want.before || tr.Behind(n) != want.behind || tr.HasElement(n) != want.has {
			t.Errorf("around %d: %d, %d, %v; want %v", n, tr.Before(n), tr.Behind(n), tr.HasElement(n), want)
		}
	}
}

func TestBuilderKnowsWhatIsOpen(t *testing.T) {
	b := NewBuilder()
	check := func(name string, open bool, elements, depth int) {
		t.Helper()
		if n, o := b.Open(); n != name || o != open || b.Len() != elements || b.Depth() != depth {
			t.Errorf("open: %q, %v; %d elements, depth %d", n, o, b.Len(), b.Depth())
		}
	}
	b.End()
	check("", false, 0, 0)
	b.Begin("a", nil)
	check("a", true, 1, 1)
	b.Begin("b", nil)
	check("b", true, 2, 2)
	b.End()
	check("a", true, 2, 1)
	b.End()
	check("", false, 2, 0)
}
