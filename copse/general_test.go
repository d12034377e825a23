package copse

import (
	"errors"
	"math"
	"reflect"
	"strings"
	"sync"
	"testing"

	"copse/api"
)

// askAll asks a document for everything, also of numbers that are no element's.
func askAll(d *Doc) []string {
	said := []string{d.Write()}
	for _, n := range []int{math.MinInt, math.MinInt + 1, -2, -1, 0, 1, 2, 3, 4, d.Len() - 1, d.Len(), d.Len() + 1, math.MaxInt} {
		d.Parent(n)
		said = append(said, d.Name(n), d.Text(n))
		for _, name := range []string{"", "id", "CLASS", "a b", "\x00", "\xff", "é", strings.Repeat("x", 5000)} {
			v, _ := d.Attr(n, name)
			said = append(said, v)
		}
	}
	return said
}

func TestP1EveryTextIsAnswered(t *testing.T) {
	texts := []string{
		"", example, strings.Repeat("<", 2000), strings.Repeat("<p>", 666), strings.Repeat("<p a=\"", 333),
		strings.Repeat("<!--", 500), strings.Repeat("&", 2000), strings.Repeat("-", 2000), strings.Repeat("\xff", 2000),
		nested("b", 285, ""), strings.Repeat("x", 1<<20), "\xed\xa0\x80", "𝔞",
	}
	for a := range 256 {
		for _, around := range []string{"|", "<|", "<p|", "<p |", "<p a|", "<p a=|", "<p a=\"|", "</|", "<p></|", "<!|", "<!--|", "&|", "&a|"} {
			texts = append(texts, strings.Replace(around, "|", string([]byte{byte(a)}), 1))
		}
	}
	for i := range example {
		texts = append(texts, example[:i], example[i:])
	}
	for _, text := range texts {
		d, err := Parse(text)
		if (d == nil) == (err == nil) {
			t.Errorf("P1: Parse(%.50q) = %v, %v; want either", text, d, err)
		}
		if d != nil {
			askAll(d)
		}
	}
}

func TestP1EverySelectorIsAnswered(t *testing.T) {
	texts := []string{
		"", exampleSelector, strings.Repeat(":not(", 40), strings.Repeat(":is(", 50), strings.Repeat("[", 200), strings.Repeat("[a=\"", 40), strings.Repeat(",", 200),
		strings.Repeat("a>", 100), strings.Repeat(" ", 200), strings.Repeat(")", 200), strings.Repeat(":nth-child(", 18), strings.Repeat("9", 200),
		within(":is(", 39, "a"), strings.Repeat("p ", 100), strings.Repeat("\xff", 200), strings.Repeat("x", 1<<20), "\xed\xa0\x80", "𝔞",
	}
	for a := range 256 {
		for _, around := range []string{"|", "a|", "a |", "a,|", "*|", "#|", ".|", ".x|", "[|", "[a|", "[a~|", "[a=|", "[a=b|", "[a=b |", "[a=\"|", "[a=\"\"|", ":|", ":n|", ":not|", ":not(|", ":nth-child(|", ":nth-child(2|", ":nth-child(n|", ":nth-child(n+|"} {
			texts = append(texts, strings.Replace(around, "|", string([]byte{byte(a)}), 1))
		}
	}
	for i := range exampleSelector {
		texts = append(texts, exampleSelector[:i], exampleSelector[i:])
	}
	for _, text := range texts {
		s, err := Compile(text)
		if (s == nil) == (err == nil) {
			t.Errorf("P1: Compile(%.50q) = %v, %v; want either", text, s, err)
		}
		if s != nil {
			s.Write()
		}
	}
}

func TestP2SameSelectorsAtAnyTime(t *testing.T) {
	s := mustCompile(t, exampleSelector)
	want := s.Write()
	mustCompile(t, "[z=\"other\"]:nth-child(7)")
	notCompiled(t, ":nope", api.ErrSyntax, 3)
	var wait sync.WaitGroup
	for range 16 {
		wait.Go(func() {
			own, err := Compile(exampleSelector)
			if err != nil || own.Write() != want || s.Write() != want {
				t.Errorf("P2: another selector in a goroutine (%v)", err)
			}
		})
	}
	wait.Wait()
	if got := s.Write(); got != want {
		t.Errorf("P2: written again: %q; want %q", got, want)
	}
}

func TestP2SameAnswersAtAnyTime(t *testing.T) {
	d := mustParse(t, example)
	want := askAll(d)
	mustParse(t, `<p id="z">other</p>`)
	refused(t, "<p", api.ErrSyntax, 2)
	if got := askAll(d); !reflect.DeepEqual(got, want) {
		t.Errorf("P2: asked again: %q; want %q", got, want)
	}
	if got := askAll(mustParse(t, example)); !reflect.DeepEqual(got, want) {
		t.Errorf("P2: parsed again: %q; want %q", got, want)
	}
}

func TestP2SameAnswersInManyGoroutines(t *testing.T) {
	d := mustParse(t, example)
	want := askAll(d)
	var wait sync.WaitGroup
	for range 16 {
		wait.Go(func() {
			own, err := Parse(example)
			if err != nil || !reflect.DeepEqual(askAll(own), want) || !reflect.DeepEqual(askAll(d), want) {
				t.Errorf("P2: another answer in a goroutine (%v)", err)
			}
		})
	}
	wait.Wait()
}

func TestP2FaultsAreNew(t *testing.T) {
	for text, code := range map[string]api.Errno{
		strings.Repeat("x", api.MaxText+1): api.ErrLong, ">": api.ErrSyntax, nested("p", api.MaxDepth+1, ""): api.ErrLimit,
	} {
		_, err := Parse(text)
		var fault *api.Fault
		if !errors.As(err, &fault) {
			t.Fatalf("P2: no fault in %v", err)
		}
		fault.Code, fault.Place = 77, 88
		refused(t, text, code, 0)
	}
}

func TestP2FaultsOfSelectorsAreNew(t *testing.T) {
	for text, code := range map[string]api.Errno{
		strings.Repeat("x", api.MaxSelector+1): api.ErrLong, ">": api.ErrSyntax, strings.Repeat("#x", api.MaxSimples+1): api.ErrLimit, within(":is(", api.MaxNest, "*"): api.ErrLimit,
	} {
		_, err := Compile(text)
		var fault *api.Fault
		if !errors.As(err, &fault) {
			t.Fatalf("P2: no fault in %v", err)
		}
		fault.Code, fault.Place = 77, 88
		notCompiled(t, text, code, 0)
	}
}

func TestWaysFaultsAreWrapped(t *testing.T) {
	for _, c := range []struct {
		text  string
		words string
	}{
		{strings.Repeat("x", api.MaxText+1), "document: too long"},
		{"a>b", "document: text: not of this form, at byte 1"},
		{"&x;", "document: text: reference: not of this form, at byte 1"},
		{"<!-->", "document: comment: not of this form, at byte 5"},
		{"<p><b></p>", "document: end: not of this form, at byte 8"},
		{"<p>", "document: element p: not of this form, at byte 3"},
		{"<1", "document: name: not of this form, at byte 1"},
		{"<P a=\"1\" a=\"2\">", "document: element p: attribute: name: not of this form, at byte 10"},
		{"<p A=\"&x;\"/>", "document: element p: attribute: value of a: reference: not of this form, at byte 7"},
		{nested("p", api.MaxDepth, "<br>"), "document: element br: too many or too deep"},
	} {
		_, err := Parse(c.text)
		checkWrapped(t, c.text, err, c.words)
	}
}

func TestWaysFaultsOfSelectorsAreWrapped(t *testing.T) {
	for _, c := range []struct {
		text  string
		words string
	}{
		{strings.Repeat("x", api.MaxSelector+1), "selector: too long"},
		{"a)", "selector: not of this form, at byte 1"},
		{"a >", "selector: name: not of this form, at byte 3"},
		{":nope", "selector: simple: not of this form, at byte 3"},
		{"a.", "selector: simple .: not of this form, at byte 2"},
		{"[1]", "selector: simple [: name: not of this form, at byte 1"},
		{"[a!=b]", "selector: simple [: operator: not of this form, at byte 2"},
		{"[a=]", "selector: simple [: value: not of this form, at byte 3"},
		{"[a=b", "selector: simple [: not of this form, at byte 4"},
		{":nth-child(2n+)", "selector: simple :nth-child(: not of this form, at byte 14"},
		{":not(:is(a,,b))", "selector: simple :not(: simple :is(: name: not of this form, at byte 11"},
		{strings.Repeat(".x", api.MaxSimples+1), "selector: simples: too many or too deep"},
		{within(":is(", api.MaxNest, "a"), "selector: lists in lists: too many or too deep"},
	} {
		_, err := Compile(c.text)
		checkWrapped(t, c.text, err, c.words)
	}
}

func checkWrapped(t *testing.T, text string, err error, words string) {
	t.Helper()
	if err == nil {
		t.Errorf("%.50q has no error", text)
		return
	}
	if err.Error() != words {
		t.Errorf("%.50q: it says %q; want %q", text, err.Error(), words)
	}
	if _, bare := err.(*api.Fault); bare {
		t.Errorf("%.50q: the fault is not wrapped", text)
	}
}
