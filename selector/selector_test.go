package selector

import (
	"errors"
	"reflect"
	"slices"
	"strings"
	"testing"

	"copse/api"
)

func read(t *testing.T, text string) List {
	t.Helper()
	list, err := Read(text)
	if err != nil {
		t.Fatalf("Read(%q): %v", text, err)
	}
	return list
}

func TestReadGivesTheWholeForm(t *testing.T) {
	list := read(t, " Ul#A > *.b[C|=\"D e\" i]+:is(f,:nth-child(-2n - 03)) g~[h],:nth-child(odd):root")
	want := List{
		{
			{0, 0, Compound{"ul", []Simple{{Kind: ID, Word: "A"}}}},
			{1, Parent, Compound{Any, []Simple{{Kind: Class, Word: "b"}, {Kind: HasAttribute, Attribute: Attribute{"c", "|=", "D e", true}}}}},
			{4, Before, Compound{"", []Simple{{Kind: Is, List: List{
				{{2, 0, Compound{"f", nil}}},
				{{3, 0, Compound{"", []Simple{{Kind: NthChild, Nth: Nth{HasN: true, A: -2, B: -3}}}}}},
			}}}}},
			{5, Around, Compound{"g", nil}},
			{6, Ahead, Compound{"", []Simple{{Kind: HasAttribute, Attribute: Attribute{Name: "h"}}}}},
		},
		{{7, 0, Compound{"", []Simple{{Kind: NthChild, Nth: Nth{"odd", true, 2, 1}}, {Kind: Root}}}}},
	}
	if !reflect.DeepEqual(list, want) {
		t.Errorf("read %+v; want %+v", list, want)
	}
	if got := Write(list); got != "ul#A>*.b[c|=\"D e\" i]+:is(f,:nth-child(-2n-3)) g~[h],:nth-child(odd):root" {
		t.Errorf("written %q", got)
	}
}

// numbersIn tells the numbers of all steps, also those of lists within.
func numbersIn(list List) []int {
	var numbers []int
	for _, steps := range list {
		for _, step := range steps {
			numbers = append(numbers, step.Number)
			for _, simple := range step.Compound.Simples {
				numbers = append(numbers, numbersIn(simple.List)...)
			}
		}
	}
	return numbers
}

func TestEachStepHasItsOwnNumber(t *testing.T) {
	for text, steps := range map[string]int{
		"*": 1, strings.Repeat("p,", 99) + "p": 100, strings.Repeat("p ", 99) + "p": 100, ":is(a,b+c):not(d e~f>:is(g,:not(h)))~i": 12,
	} {
		numbers := numbersIn(read(t, text))
		slices.Sort(numbers)
		for i, number := range numbers {
			if number != i || len(numbers) != steps {
				t.Fatalf("%.50q has the numbers %v; want %d, from 0 on", text, numbers, steps)
			}
		}
	}
}

func TestReadNth(t *testing.T) {
	for text, want := range map[string]Nth{
		"odd": {"odd", true, 2, 1}, "even": {"even", true, 2, 0}, "5": {"", false, 0, 5}, "-05": {"", false, 0, -5}, "n": {"", true, 1, 0}, "-n+12": {"", true, -1, 12}, "+0n-9": {"", true, 0, -9},
	} {
		if got := read(t, ":nth-child("+text+")")[0][0].Compound.Simples[0].Nth; got != want {
			t.Errorf("%q: %+v; want %+v", text, got, want)
		}
	}
}

func TestReadGivesNoListBesideAnError(t *testing.T) {
	for text, code := range map[string]api.Errno{
		"":                       api.ErrSyntax,
		"a)":                     api.ErrSyntax,
		"[a=b":                   api.ErrSyntax,
		strings.Repeat("p", 201): api.ErrLong,
		strings.Repeat(".p", 25): api.ErrLimit,
		":is(:is(:is(:is(a))))":  api.ErrLimit,
	} {
		if list, err := Read(text); list != nil || !errors.Is(err, code) {
			t.Errorf("Read(%.20q) = %v, %v; want code %d", text, list, err, code)
		}
	}
}

func TestNoOpeningBeginsAnother(t *testing.T) {
	all := openings()
	for i, a := range all {
		for j, b := range all {
			if i != j && strings.HasPrefix(a, b) {
				t.Errorf("%q begins %q", b, a)
			}
		}
	}
}
