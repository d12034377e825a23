// Package selector reads selectors, and writes them.
package selector

// List means what one of its parts means.
type List []Complex

// Complex is a row of compounds; it means what the last one means, standing so to those ahead.
type Complex []Step

// Step is a compound, and how it stands to the one ahead.
type Step struct {
	Number     int  // from 0 on, among all steps of the selector, also those of lists within
	Combinator byte // scan.Nothing: no other one is ahead
	Compound   Compound
}

// What a combinator says of the compound ahead of it: where it is to be found.
const (
	Around byte = ' '
	Parent byte = '>'
	Before byte = '+'
	Ahead  byte = '~'
)

// Any stands where a name could: all names are meant.
const Any = "*"

// Compound asks several things of one element.
type Compound struct {
	Name    string // empty: none stands there
	Simples []Simple
}

// Kind says what a simple asks.
type Kind int

const (
	ID Kind = iota
	Class
	HasAttribute
	Root
	Empty
	FirstChild
	LastChild
	OnlyChild
	NthChild
	Not
	Is
)

// openings tells, by their kinds, how simples begin: each one tells its kind, none begins another one.
func openings() []string {
	return []string{
		ID:           "#",
		Class:        ".",
		HasAttribute: "[",
		Root:         ":root",
		Empty:        ":empty",
		FirstChild:   ":first-child",
		LastChild:    ":last-child",
		OnlyChild:    ":only-child",
		NthChild:     ":nth-child(",
		Not:          ":not(",
		Is:           ":is(",
	}
}

func (k Kind) opening() string { return openings()[k] }

func (k Kind) closing() string {
	switch k {
	case HasAttribute:
		return "]"
	case NthChild, Not, Is:
		return ")"
	}
	return ""
}

// Simple asks one thing. What does not belong to its kind is empty.
type Simple struct {
	Kind      Kind
	Word      string
	Attribute Attribute
	Nth       Nth
	List      List
}

// Attribute asks for an attribute, and for its value, if there is an operator.
type Attribute struct {
	Name    string
	Op      string
	Against string
	AnyCase bool
}

// Nth asks for the siblings of the numbers a n + b.
type Nth struct {
	Word string // odd or even, where they are written so
	HasN bool   // without it a is 0
	A, B int
}
