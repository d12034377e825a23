package find

import (
	"copse/selector"
	"copse/tree"
)

// A question is what a simple asks of an element.
type question func(f *finder, n int, simple *selector.Simple) bool

// questions gives what simples ask, by their kinds.
func questions() []question {
	return []question{
		selector.ID:           (*finder).hasID,
		selector.Class:        (*finder).hasClass,
		selector.HasAttribute: (*finder).hasAttribute,
		selector.Root:         (*finder).isRoot,
		selector.Empty:        (*finder).isEmpty,
		selector.FirstChild:   (*finder).isFirstChild,
		selector.LastChild:    (*finder).isLastChild,
		selector.OnlyChild:    (*finder).isOnlyChild,
		selector.NthChild:     (*finder).isNthChild,
		selector.Not:          (*finder).isNot,
		selector.Is:           (*finder).is,
	}
}

func (f *finder) hasID(n int, simple *selector.Simple) bool {
	id, has := f.tree.Attribute(n, "id")
	return has && id == simple.Word
}

func (f *finder) hasClass(n int, simple *selector.Simple) bool {
	class, has := f.tree.Attribute(n, "class")
	return has && hasPart(class, simple.Word)
}

func (f *finder) hasAttribute(n int, simple *selector.Simple) bool {
	value, has := f.tree.Attribute(n, simple.Attribute.Name)
	return has && isAsked(value, simple.Attribute)
}

func (f *finder) isRoot(n int, _ *selector.Simple) bool { return f.tree.Parent(n) == tree.None }

// isEmpty holds also where comments lie in the element: the tree has none.
func (f *finder) isEmpty(n int, _ *selector.Simple) bool {
	return !f.tree.HasElement(n) && f.tree.TextOf(n) == ""
}

func (f *finder) isFirstChild(n int, _ *selector.Simple) bool { return f.tree.Before(n) == tree.None }

func (f *finder) isLastChild(n int, _ *selector.Simple) bool { return f.tree.Behind(n) == tree.None }

func (f *finder) isOnlyChild(n int, simple *selector.Simple) bool {
	return f.isFirstChild(n, simple) && f.isLastChild(n, simple)
}

func (f *finder) isNthChild(n int, simple *selector.Simple) bool {
	number := 1
	for m := f.tree.Before(n); m != tree.None; m = f.tree.Before(m) {
		number++
	}
	return isAmong(number, simple.Nth)
}

func (f *finder) isNot(n int, simple *selector.Simple) bool { return !f.is(n, simple) }

func (f *finder) is(n int, simple *selector.Simple) bool { return f.listMeans(simple.List, n) }
