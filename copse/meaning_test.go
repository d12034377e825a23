package copse

import (
	"slices"
	"strconv"
	"strings"
	"testing"

	"copse/api"
)

// A meaning tells whether an element is meant: the document's words a second time, by the calls of P4 alone.
type meaning func(d *Doc, n int) bool

// said is a selector, or a part of one, and what it means.
type said struct {
	text  string
	means meaning
}

// where gives all elements of which that is so.
func where(d *Doc, is meaning) []int {
	var all []int
	for n := range d.Len() {
		if is(d, n) {
			all = append(all, n)
		}
	}
	return all
}

func siblingsOf(d *Doc, n int) []int {
	return where(d, func(d *Doc, m int) bool { return d.Parent(m) == d.Parent(n) })
}

// numberOf tells an element's number among its siblings, from 1 on.
func numberOf(d *Doc, n int) int { return slices.Index(siblingsOf(d, n), n) + 1 }

func spacedParts(text string) []string {
	return strings.FieldsFunc(text, func(b rune) bool { return strings.ContainsRune(" \t\n", b) })
}

// A sayer makes selectors and says what they mean; always the same ones.
type sayer struct{ maker }

// short makes a list that leaves room for as much again, and a little around it.
func (m *sayer) short(depth int) said {
	for {
		if made := m.list(depth); len(made.text) < 80 {
			return made
		}
	}
}

func (m *sayer) list(depth int) said {
	made := m.complex(depth)
	for m.below(4) == 0 {
		one, other := made, m.complex(depth)
		made = said{one.text + m.among(",", " , ") + other.text, func(d *Doc, n int) bool { return one.means(d, n) || other.means(d, n) }}
	}
	return made
}

func (m *sayer) complex(depth int) said {
	made := m.compound(depth)
	for m.below(5) < 2 {
		ahead, last := made, m.compound(depth)
		combinator := m.among(" ", ">", "+", "~")
		made = said{ahead.text + combinator + last.text, func(d *Doc, n int) bool {
			return last.means(d, n) && slices.ContainsFunc(seenFrom(d, n, combinator), func(other int) bool { return ahead.means(d, other) })
		}}
	}
	return made
}

// seenFrom gives the elements that a combinator speaks of.
func seenFrom(d *Doc, n int, combinator string) []int {
	siblings, number := siblingsOf(d, n), numberOf(d, n)
	switch combinator {
	case ">":
		return where(d, func(d *Doc, m int) bool { return m == d.Parent(n) })
	case "+":
		return siblings[max(number-2, 0) : number-1]
	case "~":
		return siblings[:number-1]
	}
	var all []int
	for n = d.Parent(n); n >= 0; n = d.Parent(n) {
		all = append(all, n)
	}
	return all
}

func (m *sayer) compound(depth int) said {
	made := said{"*", func(*Doc, int) bool { return true }}
	switch m.below(3) {
	case 0:
		made = m.simple(depth)
	case 1:
		name := m.among("a", "B", "li", "br")
		made = said{name, func(d *Doc, n int) bool { return d.Name(n) == strings.ToLower(name) }}
	}
	for m.below(4) == 0 {
		one, other := made, m.simple(depth)
		made = said{one.text + other.text, func(d *Doc, n int) bool { return one.means(d, n) && other.means(d, n) }}
	}
	return made
}

func (m *sayer) simple(depth int) said {
	switch m.below(8) {
	case 0:
		word := m.among("x", "Y", "x-y")
		return said{"#" + word, func(d *Doc, n int) bool { id, _ := d.Attr(n, "id"); return id == word }}
	case 1:
		word := m.among("x", "Y", "x-y")
		return said{"." + word, func(d *Doc, n int) bool {
			class, _ := d.Attr(n, "class")
			return slices.Contains(spacedParts(class), word)
		}}
	case 2, 3:
		return m.asksAttribute()
	case 4:
		return m.asksNth()
	case 5, 6:
		return m.asksPlace()
	}
	if depth+1 == api.MaxNest {
		return m.asksPlace()
	}
	inner := m.list(depth + 1)
	if m.below(2) == 0 {
		return said{":is(" + inner.text + ")", inner.means}
	}
	return said{":not(" + inner.text + ")", func(d *Doc, n int) bool { return !inner.means(d, n) }}
}

func (m *sayer) asksPlace() said {
	name := m.among(":root", ":empty", ":first-child", ":last-child", ":only-child")
	return said{name, func(d *Doc, n int) bool {
		siblings, number := siblingsOf(d, n), numberOf(d, n)
		switch name {
		case ":root":
			return d.Parent(n) == -1
		case ":empty":
			return d.Text(n) == "" && len(where(d, func(d *Doc, m int) bool { return d.Parent(m) == n })) == 0
		case ":first-child":
			return number == 1
		case ":last-child":
			return number == len(siblings)
		}
		return len(siblings) == 1
	}}
}

func (m *sayer) asksNth() said {
	a, b := m.below(9)-4, m.below(9)-4
	text := strconv.Itoa(a) + "n" + strings.Replace("+"+strconv.Itoa(b), "+-", "-", 1)
	switch m.below(5) {
	case 0:
		a, b, text = 2, 1, "odd"
	case 1:
		a, b, text = 2, 0, "even"
	case 2:
		a, text = 0, strconv.Itoa(b)
	}
	return said{":nth-child(" + text + ")", func(d *Doc, n int) bool {
		for k := range 2 * api.MaxElements {
			if a*k+b == numberOf(d, n) {
				return true
			}
		}
		return false
	}}
}

func (m *sayer) asksAttribute() said {
	name := m.among("id", "CLASS", "k")
	if m.below(4) == 0 {
		return said{"[" + name + "]", func(d *Doc, n int) bool { _, has := d.Attr(n, name); return has }}
	}
	op, x, anyCase := m.among("=", "~=", "|=", "^=", "$=", "*="), m.among("", "x", "X", "y", "x-y", "-", " ", "x y"), m.among("", " i")
	return said{"[" + name + op + "\"" + x + "\"" + anyCase + "]", func(d *Doc, n int) bool {
		v, has := d.Attr(n, name)
		x := x
		if anyCase != "" {
			v, x = strings.ToLower(v), strings.ToLower(x)
		}
		return has && holds(v, op, x)
	}}
}

func holds(v, op, x string) bool {
	switch op {
	case "=":
		return v == x
	case "~=":
		return slices.Contains(spacedParts(v), x)
	case "|=":
		return strings.Index(v+"-", x+"-") == 0
	case "^=":
		return x != "" && strings.Index(v, x) == 0
	case "$=":
		return x != "" && strings.LastIndex(v, x) == len(v)-len(x) && len(v) >= len(x)
	}
	return x != "" && len(strings.Split(v, x)) > 1
}

// pieces makes some pieces of a document.
func (m *sayer) pieces(depth int) string {
	made := ""
	for range m.below(5) {
		switch m.below(6) {
		case 0:
			made += m.among("x", " ", "&lt;", "<!-- c -->", "<!---->")
		case 1:
			made += "<br" + m.attributes() + ">"
		default:
			name := m.among("a", "b", "B", "li")
			made += "<" + name + m.attributes() + ">"
			if depth > 0 {
				made += m.pieces(depth - 1)
			}
			made += "</" + name + ">"
		}
	}
	return made
}

func (m *sayer) attributes() string {
	made := ""
	for _, name := range []string{"id", "Class", "k"} {
		if m.below(3) == 0 {
			made += " " + name + m.among("", "=\"\"", "=\"x\"", "=\"X\"", "=\"Y\"", "=\"x-y\"", "=\"x-y-z\"", "=\"x y\"", "=\"\tY\n x \"", "=\"-\"", "=\"Xx\"")
		}
	}
	return made
}

// eachSaid goes through as many selectors as asked for, made together with documents of some elements.
func eachSaid(t *testing.T, many int, do func(m *sayer, d *Doc, made said)) {
	t.Helper()
	done := 0
	for start := uint32(0); done < many; start++ {
		m := &sayer{maker{state: start * 2654435761}}
		d, err := Parse(m.pieces(2))
		if err != nil || d.Len() < 3 {
			continue // too large, or too small to tell much
		}
		for range 12 {
			do(m, d, m.short(1))
			done++
		}
	}
}

func TestP7ManySelectors(t *testing.T) {
	yes, no, all := 0, 0, 0
	eachSaid(t, 20000, func(_ *sayer, d *Doc, made said) {
		want := where(d, made.means)
		checkFinds(t, d, mustCompile(t, made.text), want)
		switch len(want) {
		case 0:
			no++
		case d.Len():
			all++
		default:
			yes++
		}
	})
	if yes < 5000 || no < 5000 || all < 500 {
		t.Errorf("%d selectors mean some elements, %d none, %d all: too few of a kind", yes, no, all)
	}
}

func TestP6WhatIsWrittenMeansTheSame(t *testing.T) {
	eachSaid(t, 6000, func(_ *sayer, d *Doc, made said) {
		s := mustCompile(t, made.text)
		again := mustCompile(t, s.Write())
		if !slices.Equal(d.All(s), d.All(again)) {
			t.Errorf("P6: %q means %v, written %q it means %v", made.text, d.All(s), s.Write(), d.All(again))
		}
	})
}

func TestP8ListsNotAndIs(t *testing.T) {
	eachSaid(t, 6000, func(m *sayer, d *Doc, one said) {
		other := m.short(1)
		find := func(text string) []int { return d.All(mustCompile(t, text)) }
		ones, others := find(one.text), find(other.text)
		check := func(text string, want meaning) {
			t.Helper()
			if !slices.Equal(find(text), where(d, want)) {
				t.Errorf("P8: %q means %v; want %v", text, find(text), where(d, want))
			}
		}
		inOne := func(_ *Doc, n int) bool { return slices.Contains(ones, n) }
		inEither := func(_ *Doc, n int) bool { return slices.Contains(ones, n) || slices.Contains(others, n) }
		inNone := func(_ *Doc, n int) bool { return !slices.Contains(ones, n) && !slices.Contains(others, n) }
		check(one.text+","+other.text, inEither)
		check(other.text+" , "+one.text, inEither)
		check(":is("+one.text+")", inOne)
		check(":is("+one.text+","+other.text+")", inEither)
		check(":not("+one.text+","+other.text+")", inNone)
		check(":not("+one.text+"):not("+other.text+")", inNone)
	})
}

func TestP8WrittenAgain(t *testing.T) {
	eachSaid(t, 6000, func(_ *sayer, d *Doc, made said) {
		s := mustCompile(t, made.text)
		e := mustParse(t, d.Write())
		checkSame(t, d, e)
		checkWrittenAgain(t, s)
		if !slices.Equal(d.All(s), e.All(s)) {
			t.Errorf("P8: %q means %v in %q, and %v when that is written again", made.text, d.All(s), d.Write(), e.All(s))
		}
	})
}
