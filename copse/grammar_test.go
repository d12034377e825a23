package copse

import (
	"errors"
	"slices"
	"strings"
	"testing"

	"copse/api"
)

// grammar follows the document's grammar word by word, trying all ways, and keeps how far any of them got: that is the place of P3. Each of its methods tells where what it reads may end.
type grammar struct {
	text    string
	reached int
}

func (g *grammar) reach(at int) { g.reached = max(g.reached, at) }

func (g *grammar) allowed(at int) bool {
	return at < len(g.text) && (g.text[at] == 9 || g.text[at] == 10 || g.text[at] >= 32 && g.text[at] < 127)
}

func (g *grammar) byteOf(at int, set string) bool {
	if g.allowed(at) && strings.Contains(set, g.text[at:at+1]) {
		g.reach(at + 1)
		return true
	}
	return false
}

func (g *grammar) literal(at int, word string) (int, bool) {
	for i := range len(word) {
		if !g.byteOf(at+i, word[i:i+1]) {
			return 0, false
		}
	}
	return at + len(word), true
}

func (g *grammar) spaces(at int) int {
	for g.byteOf(at, " \t\n") {
		at++
	}
	return at
}

const letters = "abcdefghijklmnopqrstuvwxyzABCDEFGHIJKLMNOPQRSTUVWXYZ"

// nameEnd tells where a run of a name's bytes ends, and reaches nothing.
func (g *grammar) nameEnd(at int) int {
	end := at
	for end < len(g.text) && strings.IndexByte(letters+"0123456789-", g.text[end]) >= 0 {
		end++
	}
	return end
}

func (g *grammar) name(at int, taken []string) (string, int, bool) {
	end := g.nameEnd(at)
	if end == at || strings.IndexByte(letters, g.text[at]) < 0 {
		return "", 0, false
	}
	for i := at + 1; i <= min(end, at+api.MaxName); i++ {
		if i-at < api.MaxName || !slices.Contains(taken, strings.ToLower(g.text[at:i])) {
			g.reach(i)
		}
	}
	name := strings.ToLower(g.text[at:end])
	return name, end, end-at <= api.MaxName && !slices.Contains(taken, name)
}

func (g *grammar) sameName(at int, name string) (int, bool) {
	for i := range len(name) {
		if !g.byteOf(at+i, name[i:i+1]+strings.ToUpper(name[i:i+1])) {
			return 0, false
		}
	}
	return at + len(name), g.nameEnd(at) == at+len(name)
}

func (g *grammar) character(at int, but string) (int, bool) {
	for _, reference := range []string{"&amp;", "&lt;", "&gt;", "&quot;"} {
		if end, ok := g.literal(at, reference); ok {
			return end, true
		}
	}
	if g.allowed(at) && !strings.Contains(but, g.text[at:at+1]) {
		g.reach(at + 1)
		return at + 1, true
	}
	return 0, false
}

func (g *grammar) comment(at int) (int, bool) {
	at, ok := g.literal(at, "<!--")
	for end := at; ok; end++ {
		g.reach(end)
		if !strings.HasSuffix(g.text[at:end], "-") {
			if behind, ends := g.literal(end, "-->"); ends {
				return behind, true
			}
		}
		if !g.allowed(end) || strings.Contains(g.text[at:end+1], "--") {
			return 0, false
		}
	}
	return 0, false
}

func (g *grammar) attributes(at int) int {
	var taken []string
	for {
		behind := g.spaces(at)
		if behind == at {
			return at
		}
		name, end, ok := g.name(behind, taken)
		if !ok {
			return at
		}
		taken = append(taken, name)
		at = end
		if value, ok := g.literal(at, "=\""); ok {
			for ok {
				at = value
				value, ok = g.character(value, "<&\"")
			}
			if at, ok = g.literal(at, "\""); !ok {
				return len(g.text)
			}
		} else if g.byteOf(at, "=") {
			return len(g.text)
		}
	}
}

func (g *grammar) element(at int) (int, bool) {
	at, ok := g.literal(at, "<")
	if !ok {
		return 0, false
	}
	name, at, ok := g.name(at, nil)
	if !ok {
		return 0, false
	}
	at = g.spaces(g.attributes(at))
	if end, ok := g.literal(at, "/>"); ok {
		return end, true
	}
	at, ok = g.literal(at, ">")
	if !ok || name == "br" || name == "hr" || name == "img" {
		return at, ok
	}
	at, ok = g.literal(g.pieces(at), "</")
	if !ok {
		return 0, false
	}
	if at, ok = g.sameName(at, name); !ok {
		return 0, false
	}
	return g.literal(g.spaces(at), ">")
}

func (g *grammar) pieces(at int) int {
	for {
		end, ok := g.character(at, "<>&")
		if !ok {
			end, ok = g.comment(at)
		}
		if !ok {
			end, ok = g.element(at)
		}
		if !ok {
			return at
		}
		at = end
	}
}

func faultPlace(err error) int {
	var fault *api.Fault
	if errors.As(err, &fault) && fault.Code == api.ErrSyntax {
		return fault.Place
	}
	return -1
}

func checkGrammar(t *testing.T, text string) {
	t.Helper()
	g := &grammar{text: text}
	want := -1
	if g.pieces(0) != len(text) {
		want = g.reached
	}
	d, err := Parse(text)
	if got := faultPlace(err); got != want || (d == nil) != (want >= 0) {
		t.Errorf("P3: Parse(%q): %v at %d; the grammar says %d", text, err, got, want)
	}
	if d != nil {
		checkSame(t, d, mustParse(t, d.Write()))
	}
}

// eachRow gives all rows of one to that many words.
func eachRow(words []string, most int, check func(text string)) {
	texts := []string{""}
	for range most {
		var longer []string
		for _, text := range texts {
			for _, word := range words {
				longer = append(longer, text+word)
				check(text + word)
			}
		}
		texts = longer
	}
}

// eachChange gives the beginnings and ends of the text, and texts in which a byte or a part is more, less or another one.
func eachChange(text string, check func(text string)) {
	for at := range len(text) + 1 {
		check(text[:at])
		check(text[at:])
		for b := range 256 {
			one := string([]byte{byte(b)})
			check(text[:at] + one + text[at:])
			if at < len(text) {
				check(text[:at] + one + text[at+1:])
			}
		}
		for behind := at + 1; behind <= len(text); behind++ {
			check(text[:at] + text[behind:])
			check(text[:behind] + text[at:])
		}
	}
}

func TestP3AllShortTextsFollowTheGrammar(t *testing.T) {
	words := []string{
		"<", "</", ">", "/>", "p", "P", "br", "a", " ", "\n", "=", "\"", "=\"b\"", "<!--", "--", "-", "&", "amp;", "&lt;", "&qu", "1", "_", "!", "\x00", "<p", "</p>", "<p>", longName,
	}
	checkGrammar(t, "")
	eachRow(words, 3, func(text string) { checkGrammar(t, text) })
}

func TestP3ChangedDocumentsFollowTheGrammar(t *testing.T) {
	for _, text := range []string{
		example,
		"<p a=\"&amp;'\" Bc d=\"\"/>&quot;<!-- - --><q-1 ></Q-1\n>",
		"<p " + longName + " " + longName[:15] + "q " + longName[:15] + "><br/></p>",
		"<a><b><c x y=\"1\">&lt;</c></b><hr>&gt;</a>",
	} {
		eachChange(text, func(text string) { checkGrammar(t, text) })
	}
}
