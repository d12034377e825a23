package find

import (
	"copse/selector"
	"copse/tree"
)

// A finder asks one selector of one tree's elements. It keeps what each step said of each element: steps in a row, and lists in lists, would else ask the same in so many ways that it took for ever.
type finder struct {
	tree      *tree.Tree
	list      selector.List
	questions []question
	known     [][]verdict // by the step's number and the element's
}

type verdict byte

const (
	unknown verdict = iota
	meant
	notMeant
)

func newFinder(t *tree.Tree, list selector.List) *finder {
	return &finder{tree: t, list: list, questions: questions()}
}

func (f *finder) means(n int) bool { return f.listMeans(f.list, n) }

func (f *finder) listMeans(list selector.List, n int) bool {
	for _, part := range list {
		if f.stepsMean(part, n) {
			return true
		}
	}
	return false
}

// stepsMean takes a complex, or the beginning of one.
func (f *finder) stepsMean(steps selector.Complex, n int) bool {
	last := &steps[len(steps)-1]
	known := &f.row(last.Number)[n]
	if *known == unknown {
		*known = notMeant
		if f.compoundMeans(&last.Compound, n) && f.standsRight(steps, n) {
			*known = meant
		}
	}
	return *known == meant
}

// row gives the verdicts of a step.
func (f *finder) row(number int) []verdict {
	for len(f.known) <= number {
		f.known = append(f.known, make([]verdict, len(f.tree.Elements)))
	}
	return f.known[number]
}

func (f *finder) compoundMeans(compound *selector.Compound, n int) bool {
	if !f.hasName(n, compound.Name) {
		return false
	}
	for i := range compound.Simples {
		simple := &compound.Simples[i]
		if !f.questions[simple.Kind](f, n, simple) {
			return false
		}
	}
	return true
}

func (f *finder) hasName(n int, asked string) bool {
	return asked == "" || asked == selector.Any || asked == f.tree.Name(n)
}

// standsRight tells whether what stands ahead of the last combinator means an element that is where the combinator says.
func (f *finder) standsRight(steps selector.Complex, n int) bool {
	ahead := steps[:len(steps)-1]
	switch steps[len(ahead)].Combinator {
	case selector.Around:
		return f.someMeant(ahead, n, f.tree.Parent)
	case selector.Parent:
		return f.isMeant(ahead, f.tree.Parent(n))
	case selector.Before:
		return f.isMeant(ahead, f.tree.Before(n))
	case selector.Ahead:
		return f.someMeant(ahead, n, f.tree.Before)
	}
	return true
}

// isMeant may be asked of no element too, where none stands there.
func (f *finder) isMeant(steps selector.Complex, n int) bool {
	return n != tree.None && f.stepsMean(steps, n)
}

// someMeant tells whether one is meant of those that follow from n, one from the other.
func (f *finder) someMeant(steps selector.Complex, n int, next func(n int) int) bool {
	for m := next(n); m != tree.None; m = next(m) {
		if f.stepsMean(steps, m) {
			return true
		}
	}
	return false
}
