package copse

import (
	"errors"
	"math"
	"reflect"
	"strings"
	"sync"
	"testing"

	"copse/api"
)

// askAll asks a document for everything, also of numbers that are no element's.
func askAll(d *Doc) []string {
	said := []string{d.Write()}
	for _, n := range []int{math.MinInt, math.MinInt + 1, -2, -1, 0, 1, 2, 3, 4, d.Len() - 1, d.Len(), d.Len() + 1, math.MaxInt} {
		d.Parent(n)
		said = append(said, d.Name(n), d.Text(n))
		for _, name := range []string{"", "id", "CLASS", "a b", "\x00", "\xff", "é", strings.Repeat("x", 5000)} {
			v, _ := d.Attr(n, name)
			said = append(said, v)
		}
	}
	return said
}

func TestP1EveryTextIsAnswered(t *testing.T) {
	texts := []string{
		"", example, strings.Repeat("<", 2000), strings.Repeat("<p>", 666), strings.Repeat("<p a=\"", 333),
		strings.Repeat("<!--", 500), strings.Repeat("&", 2000), strings.Repeat("-", 2000), strings.Repeat("\xff", 2000),
		nested("b", 285, ""), strings.Repeat("x", 1<<20), "\xed\xa0\x80", "𝔞",
	}
	for a := range 256 {
		for _, around := range []string{"|", "<|", "<p|", "<p |", "<p a|", "<p a=|", "<p a=\"|", "</|", "<p></|", "<!|", "<!--|", "&|", "&a|"} {
			texts = append(texts, strings.Replace(around, "|", string([]byte{byte(a)}), 1))
		}
	}
	for i := range example {
		texts = append(texts, example[:i], example[i:])
	}
	for _, text := range texts {
		d, err := Parse(text)
		if (d == nil) == (err == nil) {
			t.Errorf("P1: Parse(%.50q) = %v, %v; want either", text, d, err)
		}
		if d != nil {
			askAll(d)
		}
	}
}

func TestP2SameAnswersAtAnyTime(t *testing.T) {
	d := mustParse(t, example)
	want := askAll(d)
	mustParse(t, `<p id="z">other</p>`)
	refused(t, "<p", api.ErrSyntax, 2)
	if got := askAll(d); !reflect.DeepEqual(got, want) {
		t.Errorf("P2: asked again: %q; want %q", got, want)
	}
	if got := askAll(mustParse(t, example)); !reflect.DeepEqual(got, want) {
		t.Errorf("P2: parsed again: %q; want %q", got, want)
	}
}

func TestP2SameAnswersInManyGoroutines(t *testing.T) {
	d := mustParse(t, example)
	want := askAll(d)
	var wait sync.WaitGroup
	for range 16 {
		wait.Go(func() {
			own, err := Parse(example)
			if err != nil || !reflect.DeepEqual(askAll(own), want) || !reflect.DeepEqual(askAll(d), want) {
				t.Errorf("P2: another answer in a goroutine (%v)", err)
			}
		})
	}
	wait.Wait()
}

func TestP2FaultsAreNew(t *testing.T) {
	for text, code := range map[string]api.Errno{
		strings.Repeat("x", api.MaxText+1): api.ErrLong, ">": api.ErrSyntax, nested("p", api.MaxDepth+1, ""): api.ErrLimit,
	} {
		_, err := Parse(text)
		var fault *api.Fault
		if !errors.As(err, &fault) {
			t.Fatalf("P2: no fault in %v", err)
		}
		fault.Code, fault.Place = 77, 88
		refused(t, text, code, 0)
	}
}

func TestWaysFaultsAreWrapped(t *testing.T) {
	for _, c := range []struct {
		text  string
		words string
	}{
		{strings.Repeat("x", api.MaxText+1), "document: too long"},
		{"a>b", "document: text: not of this form, at byte 1"},
		{"&x;", "document: text: reference: not of this form, at byte 1"},
		{"<!-->", "document: comment: not of this form, at byte 5"},
		{"<p><b></p>", "document: end: not of this form, at byte 8"},
		{"<p>", "document: element p: not of this form, at byte 3"},
		{"<1", "document: name: not of this form, at byte 1"},
		{"<P a=\"1\" a=\"2\">", "document: element p: attribute: name: not of this form, at byte 10"},
		{"<p A=\"&x;\"/>", "document: element p: attribute: value of a: reference: not of this form, at byte 7"},
		{nested("p", api.MaxDepth, "<br>"), "document: element br: too many or too deep"},
	} {
		_, err := Parse(c.text)
		if err == nil {
			t.Errorf("Parse(%.50q) has no error", c.text)
			continue
		}
		if err.Error() != c.words {
			t.Errorf("Parse(%.50q) says %q; want %q", c.text, err.Error(), c.words)
		}
		if _, bare := err.(*api.Fault); bare {
			t.Errorf("Parse(%.50q): the fault is not wrapped", c.text)
		}
	}
}
