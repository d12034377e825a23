package copse

import (
	"reflect"
	"slices"
	"strings"
	"testing"

	"copse/api"
)

// A rule tells all places where what it reads may end, if it begins at that place.
type rule func(g *grammar, at int) []int

func word(text string) rule {
	return func(g *grammar, at int) []int {
		if end, ok := g.literal(at, text); ok {
			return []int{end}
		}
		return nil
	}
}

func oneOf(rules ...rule) rule {
	return func(g *grammar, at int) []int {
		var ends []int
		for _, r := range rules {
			ends = append(ends, r(g, at)...)
		}
		slices.Sort(ends)
		return slices.Compact(ends)
	}
}

func oneByteOf(set string) rule {
	return func(g *grammar, at int) []int {
		if g.byteOf(at, set) {
			return []int{at + 1}
		}
		return nil
	}
}

func inRow(rules ...rule) rule {
	return func(g *grammar, at int) []int {
		ends := []int{at}
		for _, r := range rules {
			var next []int
			for _, end := range ends {
				next = append(next, r(g, end)...)
			}
			slices.Sort(next)
			ends = slices.Compact(next)
		}
		return ends
	}
}

func anyTimes(r rule) rule {
	return func(g *grammar, at int) []int {
		ends := []int{at}
		for i := 0; i < len(ends); i++ {
			for _, end := range r(g, ends[i]) {
				if !slices.Contains(ends, end) {
					ends = append(ends, end)
				}
			}
		}
		return ends
	}
}

func onceOrNot(r rule) rule { return oneOf(inRow(), r) }

// asLongAsCanBe reads a whole run of bytes, if it is no longer than a name.
func asLongAsCanBe(first, behind string) rule {
	return func(g *grammar, at int) []int {
		end := at
		for end < len(g.text) && strings.IndexByte(behind, g.text[end]) >= 0 {
			end++
		}
		if end == at || strings.IndexByte(first, g.text[at]) < 0 {
			return nil
		}
		g.reach(min(end, at+api.MaxName))
		if end-at > api.MaxName {
			return nil
		}
		return []int{end}
	}
}

func anyByteBut(but string) rule {
	return func(g *grammar, at int) []int {
		if g.allowed(at) && !strings.Contains(but, g.text[at:at+1]) {
			g.reach(at + 1)
			return []int{at + 1}
		}
		return nil
	}
}

// selectorRule is the document's grammar of selectors, line by line.
func selectorRule() rule {
	const digits = "0123456789"
	aName, aWord := asLongAsCanBe(letters, letters+digits+"-"), asLongAsCanBe(letters+digits+"-_", letters+digits+"-_")
	space := oneByteOf(" \t\n")
	spaces := anyTimes(space)
	sign, digit := oneByteOf("+-"), oneByteOf(digits)
	var list rule
	lists := func(g *grammar, at int) []int { return list(g, at) }

	count := inRow(digit, onceOrNot(digit))
	nth := oneOf(word("odd"), word("even"), inRow(onceOrNot(sign), count),
		inRow(onceOrNot(sign), onceOrNot(count), word("n"), onceOrNot(inRow(spaces, sign, spaces, count))))
	pseudo := oneOf(word("root"), word("empty"), word("first-child"), word("last-child"), word("only-child"),
		inRow(oneOf(word("not"), word("is")), word("("), lists, word(")")),
		inRow(word("nth-child"), word("("), spaces, nth, spaces, word(")")))
	against := oneOf(aWord, inRow(word("\""), anyTimes(anyByteBut("\"")), word("\"")))
	op := oneOf(word("="), word("~="), word("|="), word("^="), word("$="), word("*="))
	simple := oneOf(inRow(word("#"), aWord), inRow(word("."), aWord),
		inRow(word("["), spaces, aName, spaces, onceOrNot(inRow(op, spaces, against, spaces, onceOrNot(inRow(word("i"), spaces)))), word("]")),
		inRow(word(":"), pseudo))
	compound := inRow(oneOf(aName, word("*"), simple), anyTimes(simple))
	combinator := oneOf(inRow(space, spaces), inRow(spaces, oneByteOf(">+~"), spaces))
	complexes := inRow(compound, anyTimes(inRow(combinator, compound)), spaces)
	list = inRow(spaces, complexes, anyTimes(inRow(word(","), spaces, complexes)))
	return list
}

func checkSelectorGrammar(t *testing.T, text string, whole rule) {
	t.Helper()
	g := &grammar{text: text}
	want := -1
	if !slices.Contains(whole(g, 0), len(text)) {
		want = g.reached
	}
	s, err := Compile(text)
	if got := faultPlace(err); got != want {
		t.Errorf("P3: Compile(%q): %v at %d; the grammar says %d", text, err, got, want)
	}
	if s != nil {
		checkWrittenAgain(t, s)
	}
}

// checkWrittenAgain checks that what is written asks the same, and is written the same.
func checkWrittenAgain(t *testing.T, s *Selector) {
	t.Helper()
	written := s.Write()
	if len(written) > api.MaxSelector {
		return
	}
	again := mustCompile(t, written)
	if again.Write() != written || !reflect.DeepEqual(again, s) {
		t.Errorf("P6: %q is written again as %q", written, again.Write())
	}
}

func TestP3AllShortSelectorsFollowTheGrammar(t *testing.T) {
	whole := selectorRule()
	words := []string{
		"a", "*", " ", "\n", ",", ">", "+", "~", "#", ".x", "_", "-", "[", "]", "[b", "=", "|=", "\"", "\"c\"", "i", ":", ":root", ":not(", ":is(", ":nth-child(", ")", "n", "0", "odd", "e", "\x00", longName,
	}
	checkSelectorGrammar(t, "", whole)
	eachRow(words, 3, func(text string) { checkSelectorGrammar(t, text, whole) })
}

func TestP3ShortPartsFollowTheGrammar(t *testing.T) {
	whole := selectorRule()
	for _, c := range []struct{ ahead, bytes, behind string }{
		{":nth-child(", "+-0n od", ")"}, {"[a", "=~\"i b", "]"}, {":not(", "a ,>)*", ")"}, {"a", " ,>~.b", "c"},
	} {
		eachRow(strings.Split(c.bytes, ""), 5, func(text string) { checkSelectorGrammar(t, c.ahead+text+c.behind, whole) })
	}
}

func TestP3ChangedSelectorsFollowTheGrammar(t *testing.T) {
	whole := selectorRule()
	for _, text := range []string{
		exampleSelector,
		"a  >b , C:nth-child(odd)",
		longName + "." + longName + "[" + longName + "=" + longName + " i]",
		":is(:not(:is(a,b)>c):root) ~ :first-child:last-child:only-child",
		"[ a |= \"\" ][b$=c]:nth-child( 12n - 34 ):nth-child(-5):nth-child(even)",
	} {
		eachChange(text, func(text string) { checkSelectorGrammar(t, text, whole) })
	}
}
