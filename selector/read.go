package selector

import (
	"strings"

	"copse/api"
	"copse/scan"
)

type reader struct {
	*scan.Reader
	steps   int
	simples int
	lists   int // that are open
	deepest int // most lists that were open at once
}

// Read reads a selector.
func Read(text string) (List, error) {
	if len(text) > api.MaxSelector {
		return nil, &api.Fault{Code: api.ErrLong}
	}
	r := &reader{Reader: scan.NewReader(text)}
	list, err := r.list()
	if err != nil {
		return nil, err
	}
	if !r.Done() {
		return nil, r.Fail()
	}
	// Only now: that it is no selector at all is told rather than this.
	if err := r.limits(); err != nil {
		return nil, err
	}
	return list, nil
}

func (r *reader) limits() error {
	if r.simples > api.MaxSimples {
		return scan.While("simples", &api.Fault{Code: api.ErrLimit})
	}
	if r.deepest > api.MaxNest {
		return scan.While("lists in lists", &api.Fault{Code: api.ErrLimit})
	}
	return nil
}

func (r *reader) list() (List, error) {
	r.lists++
	r.deepest = max(r.deepest, r.lists)
	var list List
	for {
		r.Spaces()
		part, err := r.complex()
		if err != nil {
			return nil, err
		}
		list = append(list, part)
		if !r.Take(',') {
			r.lists--
			return list, nil
		}
	}
}

func (r *reader) complex() (Complex, error) {
	var steps Complex
	combinator, more := scan.Nothing, true
	for more {
		compound, err := r.compound()
		if err != nil {
			return nil, err
		}
		steps = append(steps, Step{r.steps, combinator, compound})
		r.steps++
		combinator, more = r.combinator()
	}
	return steps, nil
}

// combinator takes spaces and a combinator, and tells whether another compound has to follow.
func (r *reader) combinator() (byte, bool) {
	spaces := r.Spaces()
	switch b := r.Peek(); b {
	case Parent, Before, Ahead:
		r.Skip()
		r.Spaces()
		return b, true
	case ',', ')', scan.Nothing:
		return scan.Nothing, false
	}
	return Around, spaces
}

func (r *reader) compound() (Compound, error) {
	var compound Compound
	switch {
	case r.Take('*'):
		compound.Name = Any
	case !r.atSimple():
		name, err := r.Name()
		if err != nil {
			return Compound{}, scan.While("name", err)
		}
		compound.Name = name
	}
	for r.atSimple() {
		simple, err := r.simple()
		if err != nil {
			return Compound{}, err
		}
		compound.Simples = append(compound.Simples, simple)
	}
	return compound, nil
}

func (r *reader) atSimple() bool { return strings.IndexByte("#.[:", r.Peek()) >= 0 }

func (r *reader) simple() (Simple, error) {
	r.simples++
	kind, err := r.OneOf(openings())
	if err != nil {
		return Simple{}, scan.While("simple", err)
	}
	simple, err := r.asked(Kind(kind))
	if err == nil {
		err = r.Expect(simple.Kind.closing())
	}
	return simple, scan.While("simple "+simple.Kind.opening(), err)
}

// asked takes what stands behind the opening of a simple.
func (r *reader) asked(kind Kind) (Simple, error) {
	simple := Simple{Kind: kind}
	var err error
	switch kind {
	case ID, Class:
		simple.Word, err = r.Word()
	case HasAttribute:
		simple.Attribute, err = r.attribute()
	case NthChild:
		simple.Nth, err = r.nth()
	case Not, Is:
		simple.List, err = r.list()
	}
	return simple, err
}

func (r *reader) attribute() (Attribute, error) {
	r.Spaces()
	name, err := r.Name()
	if err != nil {
		return Attribute{}, scan.While("name", err)
	}
	r.Spaces()
	asked := Attribute{Name: name}
	if r.Peek() == ']' {
		return asked, nil
	}
	if asked.Op, err = r.operator(); err != nil {
		return Attribute{}, scan.While("operator", err)
	}
	r.Spaces()
	if asked.Against, err = r.against(); err != nil {
		return Attribute{}, scan.While("value", err)
	}
	r.Spaces()
	asked.AnyCase = r.Take('i')
	r.Spaces()
	return asked, nil
}

func (r *reader) operator() (string, error) {
	operators := []string{"=", "~=", "|=", "^=", "$=", "*="}
	i, err := r.OneOf(operators)
	return operators[i], err
}

func (r *reader) against() (string, error) {
	if !r.Take('"') {
		return r.Word()
	}
	return r.Until('"'), r.Expect("\"")
}

func (r *reader) nth() (Nth, error) {
	r.Spaces()
	nth, err := r.numbers()
	r.Spaces()
	return nth, err
}

func (r *reader) numbers() (Nth, error) {
	switch r.Peek() {
	case 'o':
		return Nth{Word: "odd", HasN: true, A: 2, B: 1}, r.Expect("odd")
	case 'e':
		return Nth{Word: "even", HasN: true, A: 2}, r.Expect("even")
	}
	sign, _ := r.sign()
	count, counted := r.count()
	if r.Take('n') {
		if !counted {
			count = 1
		}
		b, err := r.behindN()
		return Nth{HasN: true, A: sign * count, B: b}, err
	}
	if !counted {
		return Nth{}, r.Fail()
	}
	return Nth{B: sign * count}, nil
}

func (r *reader) behindN() (int, error) {
	r.Spaces()
	sign, signed := r.sign()
	if !signed {
		return 0, nil
	}
	r.Spaces()
	count, counted := r.count()
	if !counted {
		return 0, r.Fail()
	}
	return sign * count, nil
}

// sign takes a sign, if one is ahead, and tells what to multiply by.
func (r *reader) sign() (int, bool) {
	if r.Take('-') {
		return -1, true
	}
	return 1, r.Take('+')
}

// count takes one digit or two, if there are any.
func (r *reader) count() (int, bool) {
	first, counted := r.Digit()
	if second, more := r.Digit(); more {
		return 10*first + second, true
	}
	return first, counted
}
