package copse

import (
	"strings"
	"testing"

	"copse/api"
)

func TestP3Long(t *testing.T) {
	mustParse(t, strings.Repeat("x", api.MaxText))
	mustParse(t, "<!--"+strings.Repeat("x", api.MaxText-7)+"-->")
	refused(t, strings.Repeat("x", api.MaxText+1), api.ErrLong, 0)
	refused(t, ">"+strings.Repeat("x", api.MaxText), api.ErrLong, 0)
	refused(t, "<!--"+strings.Repeat("x", api.MaxText-6)+"-->", api.ErrLong, 0)
	refused(t, strings.Repeat("<p>", 700), api.ErrLong, 0)
}

func TestP3Limits(t *testing.T) {
	mustParse(t, strings.Repeat("<b/>", api.MaxElements))
	mustParse(t, strings.Repeat("<br>", api.MaxElements))
	mustParse(t, strings.Repeat("<b></b>", api.MaxElements))
	mustParse(t, nested("b", api.MaxDepth, "x"))
	mustParse(t, nested("b", api.MaxDepth, "")+nested("b", api.MaxDepth, ""))
	mustParse(t, nested("b", api.MaxDepth-1, "<br><br/><b/><b></b>"))
	for _, text := range []string{
		strings.Repeat("<b/>", api.MaxElements+1),
		strings.Repeat("<br>", api.MaxElements+1),
		"<p>" + strings.Repeat("<br>", api.MaxElements) + "</p>",
		nested("b", api.MaxDepth+1, ""),
		nested("b", api.MaxDepth, "<b/>"),
		nested("b", api.MaxDepth, "<br>"),
		nested("b", api.MaxDepth, "<br>") + "<p></p>",
		nested("b", 280, "x"),
	} {
		refused(t, text, api.ErrLimit, 0)
	}
}

func TestP3FormIsToldAheadOfLimits(t *testing.T) {
	many, deep := strings.Repeat("<b/>", api.MaxElements+1), nested("b", api.MaxDepth+1, "")
	refused(t, many+"<", api.ErrSyntax, len(many)+1)
	refused(t, many+"<b>", api.ErrSyntax, len(many)+3)
	refused(t, deep+"&x", api.ErrSyntax, len(deep)+1)
	refused(t, deep+"</b>", api.ErrSyntax, len(deep)+1)
	refused(t, strings.Repeat("<b>", 600), api.ErrSyntax, 1800)
}

func TestP3Places(t *testing.T) {
	for text, place := range map[string]int{
		// the document's own
		"<p></q>": 5, "<p": 2, `<p a="1" a="2">`: 10, "</p>": 1, "a & b": 3, "<br></br>": 5, "<!-- -- -->": 7,
		// texts and references
		">": 0, "x>": 1, "&": 1, "x&": 2, "& amp;": 1, "&;": 1, "&a": 2, "&am;": 3, "&amp": 4, "&amp ": 4, "&ampx;": 4, "&Amp;": 1, "&aMp;": 2,
		"&lt": 3, "&ltt;": 3, "&g": 2, "&gt>": 3, "&quo;": 4, "&quot": 5, "&#38;": 1, "&apos;": 2, "&&amp;": 1, "&amp;&": 6,
		// comments
		"<!": 2, "<!-": 3, "<!- -": 3, "<!doctype>": 2, "<!--": 4, "<!-->": 5, "<!--->": 6, "<!---": 5, "<!----": 6, "<!-----": 6, "<!--x--->": 7,
		"<!--x-- >": 7, "<!--x": 5, "<!--x-": 6, "<!--<p>": 7, "<p><!--</p>": 11, "<!-- --><": 9,
		// names
		"<": 1, "<>": 1, "< p/>": 1, "<-p/>": 1, "<1/>": 1, "<_/>": 1, "<p_/>": 2, "<p:q/>": 2, "<p.q/>": 2,
		"<" + longName: 17, "<" + longName + "q/>": 17, "<" + longName + "-/>": 17, "<" + longName + "1": 17,
		// beginnings of elements
		"<p ": 3, "<p\n\t ": 5, "<p /": 4, "<p/ >": 3, "<p//>": 3, "<p / >": 4, "<p/a>": 3, "<p<": 2, "<p <b>": 3, "<p =>": 3, `<p "a">`: 3,
		"<p>": 3, "<p>x": 4, "<p>x<": 5, "<p><b>": 6, "<p><br>": 7, "<p><b/>": 7,
		// attributes
		"<p a": 4, "<p 1a>": 3, "<p a_b>": 4, "<p a=": 5, "<p a= \"b\">": 5, "<p a =\"b\">": 5, "<p a='b'>": 5, "<p a=b>": 5, "<p a==": 5,
		"<p a=\"": 6, "<p a=\"b": 7, "<p a=\"b\"": 8, "<p a=\"b\"\"": 8, "<p a=\"b\"c=\"d\">": 8, "<p a=\"b\"=": 8, "<p a=\"<\">": 6, "<p a=\"x<": 7,
		"<p a=\"&": 7, "<p a=\"&\"": 7, "<p a=\"&amp\"": 10, "<p a=\"&x;\"": 7, "<p a=\"&l\"": 8, "<p " + longName + "q>": 19, "<p a/ b>": 5,
		// attributes that are there already
		"<p a a>": 6, "<p a a ": 6, "<p a a/>": 6, "<p a a=\"\">": 6, "<p a A>": 6, "<p Ab=\"\" aB=\"\">": 11, "<p a b a>": 8, "<p a b b": 8, "<p a aa a>": 9, "<p a a\x00": 6,
		"<p " + longName + " " + longName:                        35,
		"<p " + longName + " " + longName + ">":                  35,
		"<p " + longName + " " + longName + "q>":                 35,
		"<p " + longName + " " + strings.ToUpper(longName) + " ": 35,
		"<p " + longName[:15] + " " + longName[:15] + ">":        34,
		"<p " + longName[:15] + " " + longName + "q>":            35,
		"<p " + longName + " " + longName[:15]:                   35,
		// ends of elements
		"</": 1, "x</": 2, "<p/></p>": 5, "<p></p></p>": 8, "<hr></hr>": 5, "<IMG></IMG>": 6, "<br/></br>": 6, "<p><br></br></p>": 9,
		"<p></": 5, "<p></ p>": 5, "<p></>": 5, "<p></p": 6, "<p></p ": 7, "<p></p x>": 7, "<p></p a=\"\">": 7, "<p></p/>": 6, "<p></px>": 6, "<p></p1>": 6, "<p></p->": 6, "<p></p_>": 6,
		"<pq></p>": 7, "<pq></pr>": 7, "<p><b></p></b>": 8, "<p><q></q></q></p>": 12, "<" + longName + "></" + longName + "q>": 36,
	} {
		refused(t, text, api.ErrSyntax, place)
	}
}

func TestP3Bytes(t *testing.T) {
	for _, c := range []struct{ ahead, behind, special string }{
		{"", "", "<>&"}, {"x", "y", "<>&"}, {"<p>", "</p>", "<>&"}, {"<!--", "-->", "-"}, {"<!--x-", "-->", "-"}, {`<p a="`, `"/>`, "<&\""},
	} {
		for b := range 256 {
			one := string([]byte{byte(b)})
			text := c.ahead + one + c.behind
			allowed := b == 9 || b == 10 || b >= 32 && b <= 126
			if !allowed {
				refused(t, text, api.ErrSyntax, len(c.ahead))
			} else if !strings.Contains(c.special, one) {
				mustParse(t, text)
			}
		}
	}
}

func TestP3KindsOfBytes(t *testing.T) {
	for b := range 256 {
		one := string([]byte{byte(b)})
		space := b == 9 || b == 10 || b == 32
		letter := b >= 'A' && b <= 'Z' || b >= 'a' && b <= 'z'
		inName := letter || b >= '0' && b <= '9' || b == '-'
		for text, right := range map[string]bool{
			"<p" + one + "a=\"\"" + one + "/>": space,
			"<p></p" + one + one + ">":         space,
			"<" + one + "x/>":                  letter,
			"<p " + one + "x/>":                letter || space,
			"<x" + one + "x/>":                 inName || space,
			"<p x" + one + "y/>":               inName || space,
		} {
			if _, err := Parse(text); right != (err == nil) {
				t.Errorf("P3: Parse(%q): %v; want a document: %v", text, err, right)
			}
		}
	}
}

func TestP3Documents(t *testing.T) {
	for _, text := range []string{
		"", "x", " ", "\"'=/-!;", "&amp;&lt;&gt;&quot;", "<p/>", "<p />", "<p\n\t />", "<p></p>", "<p ></P >", "<p></p\t\n>",
		"<br>", "<BR/>", "<hr />", "<Img a>", "<p><br></p>", "<brr></brr>", "<b-r/>", "<x1/>", "<" + longName + "/>", "<" + longName + "></" + longName + ">",
		"<p a/>", "<p a b/>", "<p a=\"\"/>", "<p a=\"x\">y</p>", "<p a=\"'>/\"/>", "<p a=\"&amp;&lt;&gt;&quot;\"/>", "<p a aa aaa/>", "<p a=\"\n\"/>",
		"<p " + longName + " " + longName[:15] + " " + longName[:15] + "q/>", "<p a><p a/></p>",
		"<!---->", "<!-- -->", "<!--->-->", "<!--<p>&-->", "<!--- - -->", "<!----><!---->", "<p><!--</p>--></p>", "a<!--b-->c",
	} {
		mustParse(t, text)
	}
}
