package copse

import (
	"math"
	"slices"
	"strings"
	"testing"

	"copse/api"
)

// closestOf tells which of the elements meant is the first one from n outwards.
func closestOf(d *Doc, n int, meant []int) int {
	for ; n >= 0 && n < d.Len(); n = d.Parent(n) {
		if slices.Contains(meant, n) {
			return n
		}
	}
	return -1
}

// checkFinds holds all four calls against the elements that are to be meant.
func checkFinds(t *testing.T, d *Doc, s *Selector, want []int) {
	t.Helper()
	if all := d.All(s); !slices.Equal(all, want) {
		t.Errorf("P7: %q in %.300q: all are %v; want %v", s.Write(), d.Write(), all, want)
	}
	first := -1
	if len(want) > 0 {
		first = want[0]
	}
	if n := d.First(s); n != first {
		t.Errorf("P7: %q in %.300q: the first is %d; want %d", s.Write(), d.Write(), n, first)
	}
	for n := -2; n < d.Len()+2; n++ {
		if is := d.Is(n, s); is != slices.Contains(want, n) {
			t.Errorf("P7: %q in %.300q: is %d: %v", s.Write(), d.Write(), n, is)
		}
		if closest := d.Closest(n, s); closest != closestOf(d, n, want) {
			t.Errorf("P7: %q in %.300q: closest to %d is %d; want %d", s.Write(), d.Write(), n, closest, closestOf(d, n, want))
		}
	}
}

// meant is a selector, and the elements that it means.
type meant struct {
	selector string
	elements []int
}

func checkAllFind(t *testing.T, text string, cases []meant) {
	t.Helper()
	d := mustParse(t, text)
	for _, c := range cases {
		checkFinds(t, d, mustCompile(t, c.selector), c.elements)
	}
}

func TestP7Example(t *testing.T) {
	checkAllFind(t, example, []meant{
		{"li", []int{1, 2}}, {"ul > .y", []int{1}}, {"li + li br", []int{3}}, {"li:not(.x), ul", []int{0, 2}}, {":nth-child(2n+1)", []int{0, 1, 3}}, {"[class~=\"y\"]", []int{1}}, {":empty", []int{3}},
	})
}

func TestP7NoElements(t *testing.T) {
	for _, text := range []string{"", "text", "<!-- c -->"} {
		checkAllFind(t, text, []meant{{"*", nil}, {":not(*)", nil}, {":root", nil}, {"a b", nil}})
	}
}

func TestP7Names(t *testing.T) {
	checkAllFind(t, "<a/><B/><ab/><a-b><a/></a-b><br>", []meant{
		{"a", []int{0, 4}}, {"A", []int{0, 4}}, {"b", []int{1}}, {"aB", []int{2}}, {"a-b", []int{3}}, {"BR", []int{5}}, {"c", nil}, {"*", []int{0, 1, 2, 3, 4, 5}}, {"*:root", []int{0, 1, 2, 3, 5}}, {"a:root", []int{0}},
	})
}

func TestP7IDsAndClasses(t *testing.T) {
	checkAllFind(t, "<a id=\"x\" class=\"x\"/><b ID=\"x\" class=\" y\tx\n\"/><c id=\"X\" class=\"X\"/><d id=\"x y\" class=\"x-y\"/><e id class/><f/><g id=\"x \" class=\"xx x_ y\"/>", []meant{
		{"#x", []int{0, 1}}, {"#X", []int{2}}, {"#y", nil}, {"a#x", []int{0}}, {"#x#x", []int{0, 1}}, {"#x#X", nil}, {"*#x", []int{0, 1}},
		{".x", []int{0, 1}}, {".X", []int{2}}, {".y", []int{1, 6}}, {".x-y", []int{3}}, {".xx", []int{6}}, {".x.y", []int{1}}, {".y.x", []int{1}}, {".x_.y", []int{6}}, {"#x.y", []int{1}}, {".z", nil}, {".-", nil},
	})
}

func TestP7Attributes(t *testing.T) {
	checkAllFind(t, "<a k=\"en\"/><a k=\"en-US\"/><a k=\"x  en\ty\"/><a k=\"\"/><a k/><a/><a kk=\"en\"/><a K=\"EN\"/><a k=\"-\"/><a k=\"&lt;&amp;&quot;\"/>", []meant{
		{"[k]", []int{0, 1, 2, 3, 4, 7, 8, 9}}, {"[ K ]", []int{0, 1, 2, 3, 4, 7, 8, 9}}, {"[kk]", []int{6}}, {"[x]", nil}, {":not([k])", []int{5, 6}},
		{"[k=en]", []int{0}}, {"[k=EN]", []int{7}}, {"[k=En]", nil}, {"[k=eN i]", []int{0, 7}}, {"[k=\"\"]", []int{3, 4}}, {"[k=\"\" i]", []int{3, 4}}, {"[k=\"en-us\"i]", []int{1}}, {"[k=\"x en y\"]", nil},
		{"[k~=en]", []int{0, 2}}, {"[k~=EN i]", []int{0, 2, 7}}, {"[k~=y]", []int{2}}, {"[k~=\"\"]", nil}, {"[k~=\" \"]", nil}, {"[k~=\"x  en\"]", nil}, {"[k~=\"en\ty\"]", nil},
		{"[k|=en]", []int{0, 1}}, {"[k|=EN i]", []int{0, 1, 7}}, {"[k|=\"\"]", []int{3, 4, 8}}, {"[k|=e]", nil}, {"[k|=\"en-\"]", nil}, {"[k|=\"en-US\"]", []int{1}}, {"[k|=\"-\"]", []int{8}},
		{"[k^=en]", []int{0, 1}}, {"[k^=E]", []int{7}}, {"[k^=E i]", []int{0, 1, 7}}, {"[k^=\"\"]", nil}, {"[k^=\"\"i]", nil}, {"[k^=ens]", nil},
		{"[k$=n]", []int{0}}, {"[k$=us]", nil}, {"[k$=us i]", []int{1}}, {"[k$=\"\"]", nil}, {"[k$=\"\ty\"]", []int{2}},
		{"[k*=n]", []int{0, 1, 2}}, {"[k*=n i]", []int{0, 1, 2, 7}}, {"[k*=\"\"]", nil}, {"[k*=\"  \"]", []int{2}}, {"[k*=N-u i]", []int{1}}, {"[k*=\"-\"]", []int{1, 8}},
		{"[k*=\"<&\"]", []int{9}}, {"[k*=\"&lt;\"]", nil}, {"[k=en][k|=en]", []int{0}}, {"[k][kk]", nil},
	})
}

// The elements of around: 0 p, 1 b, 2 i, 3 b, 4 p, 5 i, 6 i, 7 b, 8 i, 9 u.
const around = "<p><b><i/></b>t<b> </b></p><p><i/><!-- --><i><b><i/></b></i></p>t<u><!----></u>"

func TestP7Combinators(t *testing.T) {
	checkAllFind(t, around, []meant{
		{"p i", []int{2, 5, 6, 8}}, {"p>i", []int{5, 6}}, {"p b i", []int{2, 8}}, {"p i i", []int{8}}, {"p>b>i", []int{2}}, {"p>i i", []int{8}}, {"p i>i", nil}, {"i p", nil}, {"p p", nil}, {"* *", []int{1, 2, 3, 5, 6, 7, 8}}, {"* * * *", []int{8}}, {"*>*>*>*>*", nil},
		{"b+b", []int{3}}, {"i+i b", []int{7}}, {"p+p", []int{4}}, {"p+u", []int{9}}, {"p+i", nil}, {"p+p+u", []int{9}}, {"u+p", nil}, {"i+b", nil}, {"i + i", []int{6}},
		{"p~p", []int{4}}, {"p~u", []int{9}}, {"p~p~u", []int{9}}, {"p~p~p", nil}, {"p ~ p *", []int{5, 6, 7, 8}}, {"i~b", nil}, {"u~p", nil}, {"p~p~*", []int{9}},
		{"p:first-child i", []int{2}}, {"p~p>i+i>b i", []int{8}}, {"b~b,u,p i+i", []int{3, 6, 9}}, {"p i, i, p", []int{0, 2, 4, 5, 6, 8}},
	})
}

// A combinator must go back: the nearest one that is meant may stand wrong itself.
func TestP7CombinatorsGoBack(t *testing.T) {
	checkAllFind(t, "<a><b><x><b><c/></b></x></b></a>", []meant{{"a>b c", []int{4}}, {"a>b x>b>c", []int{4}}, {"x>b c", []int{4}}, {"a>b>c", nil}})
	checkAllFind(t, "<a/><b/><x/><b/><c/>", []meant{{"a+b~c", []int{4}}, {"x+b~c", []int{4}}, {"a+b+c", nil}, {"b+x~b+c", []int{4}}, {"x~x~c", nil}})
	checkAllFind(t, "<a><x/><b><y/><b><z/></b></b></a>", []meant{{"x+b z", []int{5}}, {"y+b z", []int{5}}, {"a b b z", []int{5}}, {"a>b>z", nil}})
}

func TestP7Pseudos(t *testing.T) {
	checkAllFind(t, around, []meant{
		{":root", []int{0, 4, 9}}, {":empty", []int{2, 5, 8, 9}}, {":first-child", []int{0, 1, 2, 5, 7, 8}}, {":last-child", []int{2, 3, 6, 7, 8, 9}}, {":only-child", []int{2, 7, 8}},
		{"b:empty", nil}, {":root:last-child", []int{9}}, {":not(:root)", []int{1, 2, 3, 5, 6, 7, 8}},
		{":not(p, i)", []int{1, 3, 7, 9}}, {":not(:not(p))", []int{0, 4}}, {":not(*)", nil}, {"i:not(p i)", nil}, {"i:not(p>i)", []int{2, 8}}, {":not(p):not(i)", []int{1, 3, 7, 9}},
		{":is(p > i, b > i)", []int{2, 5, 6, 8}}, {":is(p):is(i)", nil}, {":is(p, :is(u))", []int{0, 4, 9}}, {"p :is(b, i) i", []int{2, 8}}, {":is(p+p)>i", []int{5, 6}}, {"b :is(i, b), p + *", []int{2, 4, 8, 9}}, {":is(:not(:is(b,i)))", []int{0, 4, 9}},
	})
	checkAllFind(t, "<a/>", []meant{{":only-child:root:empty:first-child:last-child", []int{0}}})
	checkAllFind(t, "text<a><b>x</b></a>text<br>", []meant{{":only-child", []int{1}}, {":empty", []int{2}}, {":first-child", []int{0, 1}}})
}

func TestP7NthChild(t *testing.T) {
	row := "<u>" + strings.Repeat("<i/>x", 12) + "</u>"
	for nth, want := range map[string][]int{
		"odd": {1, 3, 5, 7, 9, 11}, "even": {2, 4, 6, 8, 10, 12}, "n": {1, 2, 3, 4, 5, 6, 7, 8, 9, 10, 11, 12}, "+n": {1, 2, 3, 4, 5, 6, 7, 8, 9, 10, 11, 12}, "3": {3}, "+03": {3}, "0": nil, "-3": nil, "12": {12}, "13": nil,
		"3n": {3, 6, 9, 12}, "3n+1": {1, 4, 7, 10}, "3n-1": {2, 5, 8, 11}, "3n+7": {7, 10}, "3n+12": {12}, "3n+13": nil, "-n+3": {1, 2, 3}, "-3n+8": {2, 5, 8}, "-n": nil, "-n-1": nil, "0n": nil, "0n+4": {4}, "-0n+4": {4}, "n+10": {10, 11, 12}, "n-10": {1, 2, 3, 4, 5, 6, 7, 8, 9, 10, 11, 12}, "99n+2": {2}, "99n-98": {1}, "99n": nil, "-99n+99": nil, "-9n+99": {9},
	} {
		checkAllFind(t, row, []meant{{"u>:nth-child(" + nth + ")", want}})
	}
	// other names count too; those without a parent are siblings
	checkAllFind(t, "<a/><b><a/></b><a/><b/>", []meant{{"a:nth-child(odd)", []int{0, 2, 3}}, {"b:nth-child(even)", []int{1, 4}}, {":nth-child(3)", []int{3}}, {":nth-child(1)", []int{0, 2}}, {":root:nth-child(n+2)", []int{1, 3, 4}}})
}

func TestP7ClosestGoesOutwards(t *testing.T) {
	d := mustParse(t, "<a><b><a><c/></a></b></a><c/>")
	for _, c := range []struct {
		n        int
		selector string
		want     int
	}{
		{3, "c", 3}, {3, "a", 2}, {3, "b", 1}, {3, "a:root", 0}, {3, "a,b,c", 3}, {2, "a", 2}, {2, "c", -1}, {4, "a", -1}, {4, "*", 4}, {0, "b", -1}, {3, "a a", 2}, {3, "c+c", -1},
		{-1, "*", -1}, {5, "*", -1}, {math.MaxInt, "*", -1}, {math.MinInt, "*", -1}, {-1, ":not(*)", -1}, {5, ":not(a)", -1},
	} {
		if got := d.Closest(c.n, mustCompile(t, c.selector)); got != c.want {
			t.Errorf("P7: closest to %d of %q is %d; want %d", c.n, c.selector, got, c.want)
		}
	}
}

func TestP7OfNoElement(t *testing.T) {
	d := mustParse(t, example)
	for _, text := range []string{"*", ":not(*)", ":not(a)", ":root", ":empty", ":first-child", ":nth-child(n-99)", "[a]", "* *", "*~*"} {
		s := mustCompile(t, text)
		for _, n := range []int{math.MinInt, math.MinInt + 1, -2, -1, d.Len(), d.Len() + 1, api.MaxElements, api.MaxSelector, math.MaxInt - 1, math.MaxInt} {
			if d.Is(n, s) || d.Closest(n, s) != -1 {
				t.Errorf("P7: %q of %d: %v, %d", text, n, d.Is(n, s), d.Closest(n, s))
			}
		}
	}
}
