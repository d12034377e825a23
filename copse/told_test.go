package copse

import (
	"math"
	"testing"
)

func TestP4Elements(t *testing.T) {
	checkElements(t, "")
	checkElements(t, "text <!-- <p/> --> only")
	checkElements(t, example, element{"ul", -1, "onet&wo"}, element{"li", 0, "one"}, element{"li", 0, "t&wo"}, element{"br", 2, ""})
	checkElements(t, "a<P>b</P>c<q-1/>d", element{"p", -1, "b"}, element{"q-1", -1, ""})
	checkElements(t, "<a>1<b>2<c>3</c>4</b>5<d>6</d>7</a>8<e>9</e>",
		element{"a", -1, "1234567"}, element{"b", 0, "234"}, element{"c", 1, "3"}, element{"d", 0, "6"}, element{"e", -1, "9"})
	checkElements(t, "<p>x<br>y<HR/>z<img >w</p>",
		element{"p", -1, "xyzw"}, element{"br", 0, ""}, element{"hr", 0, ""}, element{"img", 0, ""})
	checkElements(t, "<p>&lt;&gt;&quot;&amp;lt; \n\t<!-- no -->x</p>", element{"p", -1, "<>\"&lt; \n\tx"})
	checkElements(t, "<p a=\"no text\"/>", element{"p", -1, ""})
}

func TestP4Attributes(t *testing.T) {
	d := mustParse(t, `<p ID="A b" Class e="" r="&amp;&lt;&gt;&quot;&amp;lt;'>"><q id="other"/></p>`)
	checkAttr(t, d, 0, "id", "A b", true)
	checkAttr(t, d, 0, "Id", "A b", true)
	checkAttr(t, d, 0, "CLASS", "", true)
	checkAttr(t, d, 0, "e", "", true)
	checkAttr(t, d, 0, "r", "&<>\"&lt;'>", true)
	checkAttr(t, d, 1, "iD", "other", true)
	for _, name := range []string{"", "i", "idd", "id ", " id", "p", "é", "\xff"} {
		checkAttr(t, d, 0, name, "", false)
	}
	checkAttr(t, d, 1, "class", "", false)
}

func TestP4OnlyLettersHaveAnotherForm(t *testing.T) {
	d := mustParse(t, `<p k="v" s="v" a-1="v"/>`)
	checkAttr(t, d, 0, "K", "v", true)
	checkAttr(t, d, 0, "A-1", "v", true)
	for _, name := range []string{"\u212a", "\u017f", "a\x0d1", "a\r1", "A\x4d1"} {
		checkAttr(t, d, 0, name, "", false)
	}
}

func TestP4NoElement(t *testing.T) {
	for _, text := range []string{"", example, "<p id=\"x\">y</p>"} {
		d := mustParse(t, text)
		for _, n := range []int{math.MinInt, -2, -1, d.Len(), d.Len() + 1, math.MaxInt32 + 1, math.MaxInt} {
			if d.Name(n) != "" || d.Parent(n) != -1 || d.Text(n) != "" {
				t.Errorf("P4: of %d in %q: %q, %d, %q", n, text, d.Name(n), d.Parent(n), d.Text(n))
			}
			checkAttr(t, d, n, "id", "", false)
			checkAttr(t, d, n, "", "", false)
		}
	}
}

func TestP4Parents(t *testing.T) {
	d := mustParse(t, nested("p", 12, "")+"<q/>")
	for n := range 12 {
		if d.Parent(n) != n-1 {
			t.Errorf("P4: Parent(%d) = %d", n, d.Parent(n))
		}
	}
	if d.Len() != 13 || d.Parent(12) != -1 {
		t.Errorf("P4: Len() = %d, Parent(12) = %d", d.Len(), d.Parent(12))
	}
}
