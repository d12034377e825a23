package copse

import (
	"strings"
	"testing"

	"copse/api"
)

func TestP5Write(t *testing.T) {
	for _, c := range [][2]string{
		{"", ""},
		{"x", "x"},
		{" \n\t", " \n\t"},
		{example, `<ul id="a"><li class="x y">one</li><li>t&amp;wo<br></li></ul>`},
		{"a<p>b<q>c</q>d</p>e<r/>f", "a<p>b<q>c</q>d</p>e<r></r>f"},
		{"<p><q><r/></q></p><s/>", "<p><q><r></r></q></p><s></s>"},
		{"<P\n/>", "<p></p>"},
		{"<P ></p >", "<p></p>"},
		{"<BR/>x<Hr >y<img\t/>", "<br>x<hr>y<img>"},
		{"<br a=\"b\"/>", "<br a=\"b\">"},
		{"<p>x<br>y</p>", "<p>x<br>y</p>"},
		{"<p  B=\"1\"\n\tA\ta1=\"\"  />", "<p b=\"1\" a=\"\" a1=\"\"></p>"},
		{"&amp;&lt;&gt;&quot;\"'&amp;amp;", "&amp;&lt;&gt;\"\"'&amp;amp;"},
		{"<p a=\"&amp;&lt;&gt;&quot;>'\n&amp;amp;\"/>", "<p a=\"&amp;&lt;>&quot;>'\n&amp;amp;\"></p>"},
		{"a<!-- x -->b<!----><p><!--y-->c<!--z--></p><!---->", "ab<p>c</p>"},
		{"<!--x-->", ""},
		{"X<P A=\"B\">Y</P>", "X<p a=\"B\">Y</p>"},
	} {
		if w := mustParse(t, c[0]).Write(); w != c[1] {
			t.Errorf("P5: %q is written %q; want %q", c[0], w, c[1])
		}
	}
}

func TestP5WhatIsWrittenHasTheSame(t *testing.T) {
	for _, text := range []string{
		example, "a<b>&lt;c/&gt;</b>", "<p a=\"&quot;&gt;\" b c=\"&lt;\"/>", "&amp;lt;<br/>&quot;<p x=\"&amp;quot;\">&amp;amp;</p>", nested("p", 12, "x&gt;y"),
	} {
		d := mustParse(t, text)
		checkSame(t, d, mustParse(t, d.Write()))
	}
}

// checkSame checks that both have the same elements, attributes and texts.
func checkSame(t *testing.T, d, e *Doc) {
	t.Helper()
	if d.Write() != e.Write() || d.Len() != e.Len() || d.tree.Text != e.tree.Text {
		t.Errorf("P5: %q is written again as %q", d.Write(), e.Write())
		return
	}
	for n := range d.Len() {
		if d.Name(n) != e.Name(n) || d.Parent(n) != e.Parent(n) || d.Text(n) != e.Text(n) {
			t.Errorf("P5: element %d of %q changes when it is written", n, d.Write())
		}
		for _, a := range d.tree.Elements[n].Attributes {
			checkAttr(t, e, n, a.Name, a.Value, true)
		}
	}
}

func TestP5MayBeTooLongToBeRead(t *testing.T) {
	text := strings.Repeat("<b/>", api.MaxElements) + strings.Repeat("&gt;", 400)
	refused(t, mustParse(t, text).Write(), api.ErrLong, 0)
}
