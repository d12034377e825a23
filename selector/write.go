package selector

import (
	"strconv"
	"strings"
)

type writer struct{ out strings.Builder }

// Write writes the list's selector, in one way.
func Write(list List) string {
	var w writer
	w.list(list)
	return w.out.String()
}

func (w *writer) list(list List) {
	for i, part := range list {
		if i > 0 {
			w.out.WriteByte(',')
		}
		w.complex(part)
	}
}

func (w *writer) complex(steps Complex) {
	for i, step := range steps {
		if i > 0 {
			w.out.WriteByte(step.Combinator)
		}
		w.out.WriteString(step.Compound.Name)
		for _, simple := range step.Compound.Simples {
			w.simple(simple)
		}
	}
}

func (w *writer) simple(simple Simple) {
	w.out.WriteString(simple.Kind.opening())
	switch simple.Kind {
	case ID, Class:
		w.out.WriteString(simple.Word)
	case HasAttribute:
		w.attribute(simple.Attribute)
	case NthChild:
		w.out.WriteString(simple.Nth.written())
	case Not, Is:
		w.list(simple.List)
	}
	w.out.WriteString(simple.Kind.closing())
}

func (w *writer) attribute(asked Attribute) {
	w.out.WriteString(asked.Name)
	if asked.Op == "" {
		return
	}
	w.out.WriteString(asked.Op + "\"" + asked.Against + "\"")
	if asked.AnyCase {
		w.out.WriteString(" i")
	}
}

func (n Nth) written() string {
	a, b := strconv.Itoa(n.A), strconv.Itoa(n.B)
	switch {
	case n.Word != "":
		return n.Word
	case !n.HasN:
		return b
	case n.B == 0:
		return a + "n"
	case n.B < 0:
		return a + "n" + b
	}
	return a + "n+" + b
}
