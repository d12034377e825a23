// Package find tells which elements of a tree a selector means.
package find

import (
	"slices"

	"copse/selector"
	"copse/tree"
)

// All tells the numbers of all elements that are meant, rising. Two workers look, each at every other element: so both have to do, wherever those that are meant stand.
func All(t *tree.Tree, list selector.List) []int {
	even, odd := make(chan int), make(chan int)
	go newFinder(t, list).send(0, even)
	go newFinder(t, list).send(1, odd)
	found := takeBoth(even, odd)
	slices.Sort(found)
	return found
}

// send sends those that are meant among every other element, from that one on, and tells by closing that no more come.
func (f *finder) send(from int, found chan<- int) {
	for n := from; f.tree.Has(n); n += 2 {
		if f.means(n) {
			found <- n
		}
	}
	close(found)
}

// takeBoth takes what comes from either one, until both are done. One that is done is nil from then on, which select passes over.
func takeBoth(one, other <-chan int) []int {
	var taken []int
	for one != nil || other != nil {
		select {
		case n, more := <-one:
			if more {
				taken = append(taken, n)
			} else {
				one = nil
			}
		case n, more := <-other:
			if more {
				taken = append(taken, n)
			} else {
				other = nil
			}
		}
	}
	return taken
}

// First tells the first element that is meant.
func First(t *tree.Tree, list selector.List) int {
	f := newFinder(t, list)
	for n := range t.Elements {
		if f.means(n) {
			return n
		}
	}
	return tree.None
}

// Is tells whether an element is meant.
func Is(t *tree.Tree, list selector.List, n int) bool {
	return t.Has(n) && newFinder(t, list).means(n)
}

// Closest tells the first one that is meant, from an element outwards.
func Closest(t *tree.Tree, list selector.List, n int) int {
	f := newFinder(t, list)
	for ; t.Has(n); n = t.Parent(n) {
		if f.means(n) {
			return n
		}
	}
	return tree.None
}
