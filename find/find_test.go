package find

import (
	"slices"
	"strings"
	"testing"

	"copse/markup"
	"copse/selector"
	"copse/tree"
)

func readTree(t *testing.T, text string) *tree.Tree {
	t.Helper()
	read, err := markup.Read(text)
	if err != nil {
		t.Fatalf("%q: %v", text, err)
	}
	return read
}

func readList(t *testing.T, text string) selector.List {
	t.Helper()
	list, err := selector.Read(text)
	if err != nil {
		t.Fatalf("%q: %v", text, err)
	}
	return list
}

func TestFind(t *testing.T) {
	tr, list := readTree(t, "<p><q><b/></q><q/></p>"), readList(t, "q")
	if all := All(tr, list); !slices.Equal(all, []int{1, 3}) {
		t.Errorf("all: %v", all)
	}
	if first := First(tr, list); first != 1 {
		t.Errorf("first: %d", first)
	}
	for n, closest := range []int{tree.None, 1, 1, 3, tree.None} {
		if got := Closest(tr, list, n); got != closest {
			t.Errorf("closest to %d: %d; want %d", n, got, closest)
		}
		if is := Is(tr, list, n); is != (n == 1 || n == 3) {
			t.Errorf("is %d: %v", n, is)
		}
	}
}

func TestEachKindHasItsQuestion(t *testing.T) {
	all := questions()
	if len(all) != int(selector.Is)+1 {
		t.Errorf("there are %d questions", len(all))
	}
	for kind, ask := range all {
		if ask == nil {
			t.Errorf("no question for kind %d", kind)
		}
	}
}

func TestWorkersLookAtEveryElementOnce(t *testing.T) {
	for elements := range 8 {
		f := newFinder(readTree(t, strings.Repeat("<p/>", elements)), readList(t, "*"))
		seen := make([]int, elements)
		for from := range 2 {
			sent := make(chan int, elements)
			f.send(from, sent)
			for n := range sent {
				seen[n]++
			}
		}
		if slices.ContainsFunc(seen, func(times int) bool { return times != 1 }) {
			t.Errorf("of %d elements they looked so often at each: %v", elements, seen)
		}
	}
}

func TestTakeBothWaitsForBoth(t *testing.T) {
	for _, sent := range [][2][]int{{nil, nil}, {{1, 2, 3}, nil}, {nil, {1, 2, 3}}, {{1}, {2, 3}}, {{3, 2}, {1}}} {
		var ends [2]chan int
		for i, numbers := range sent {
			ends[i] = make(chan int)
			go func() {
				for _, n := range numbers {
					ends[i] <- n
				}
				close(ends[i])
			}()
		}
		taken := takeBoth(ends[0], ends[1])
		slices.Sort(taken)
		if want := slices.Sorted(slices.Values(slices.Concat(sent[0], sent[1]))); !slices.Equal(taken, want) {
			t.Errorf("sent %v, taken %v", sent, taken)
		}
	}
}

func TestIsAmongAllNumbers(t *testing.T) {
	for a := -99; a <= 99; a++ {
		for b := -99; b <= 99; b++ {
			var want [101]bool
			for k := range 300 {
				if number := a*k + b; number > 0 && number < len(want) {
					want[number] = true
				}
			}
			for number := 1; number < len(want); number++ {
				if isAmong(number, selector.Nth{HasN: true, A: a, B: b}) != want[number] {
					t.Fatalf("%d among %d n + %d: want %v", number, a, b, want[number])
				}
			}
		}
	}
}

// wordsOf gives all texts of those bytes up to that length.
func wordsOf(bytes string, length int) []string {
	all, from := []string{""}, 0
	for range length {
		longest := all[from:]
		from = len(all)
		for _, word := range longest {
			for _, b := range bytes {
				all = append(all, word+string(b))
			}
		}
	}
	return all
}

// partsOf gives the parts of a value between spaces, going from byte to byte.
func partsOf(value string) []string {
	var parts []string
	part := ""
	for _, b := range value + " " {
		switch {
		case b != ' ' && b != '\t' && b != '\n':
			part += string(b)
		case part != "":
			parts = append(parts, part)
			part = ""
		}
	}
	return parts
}

// wanted tells by the document's words, in another way, whether the value is as it is asked for.
func wanted(v, op, x string) bool {
	for from := range len(v) + 1 {
		for to := from; to <= len(v); to++ {
			if v[from:to] != x {
				continue
			}
			all, some := from == 0 && to == len(v), x != ""
			switch op {
			case "=":
				if all {
					return true
				}
			case "|=":
				if all || from == 0 && v[to] == '-' {
					return true
				}
			case "^=":
				if some && from == 0 {
					return true
				}
			case "$=":
				if some && to == len(v) {
					return true
				}
			case "*=":
				if some {
					return true
				}
			}
		}
	}
	return op == "~=" && slices.Contains(partsOf(v), x)
}

func TestIsAskedAllShortValues(t *testing.T) {
	values := append(wordsOf("aA- ", 4), "a\tA", "a\nA", "\ta\n", "A  a", "aA-aA", "aA-Aa aa", "@`[{", "Z", "z")
	againsts := append(wordsOf("aA- ", 2), "aA-", "a\tA", "\t", "`@", "{[", "z")
	for _, v := range values {
		for _, x := range againsts {
			for _, op := range []string{"=", "~=", "|=", "^=", "$=", "*="} {
				if got, want := isAsked(v, selector.Attribute{Op: op, Against: x}), wanted(v, op, x); got != want {
					t.Errorf("%q %s %q: %v; want %v", v, op, x, got, want)
				}
				got, want := isAsked(v, selector.Attribute{Op: op, Against: x, AnyCase: true}), wanted(strings.ToLower(v), op, strings.ToLower(x))
				if got != want {
					t.Errorf("%q %s %q i: %v; want %v", v, op, x, got, want)
				}
			}
			if !isAsked(v, selector.Attribute{Against: x}) {
				t.Errorf("%q without an operator: not as asked", v)
			}
		}
	}
}
