// Package scan goes through a text, byte by byte.
package scan

import (
	"slices"
	"strings"

	"copse/api"
)

// Reader never goes back, and takes a byte only where some right text goes on with it. So the place where it stands when reading fails is the longest beginning that could have become right.
type Reader struct {
	text  string
	place int
}

// NewReader gives a reader at the beginning of the text.
func NewReader(text string) *Reader { return &Reader{text: text} }

// Done tells whether all of the text is taken.
func (r *Reader) Done() bool { return r.place == len(r.text) }

// Peek tells the byte ahead: Nothing at the end, and for a byte that may not stand anywhere.
func (r *Reader) Peek() byte {
	if r.Done() || !isAllowed(r.text[r.place]) {
		return Nothing
	}
	return r.text[r.place]
}

// Skip takes the byte ahead, if there is one that may stand anywhere.
func (r *Reader) Skip() {
	if r.Peek() != Nothing {
		r.place++
	}
}

// Take takes the byte if it is the one ahead, and tells whether it was.
func (r *Reader) Take(b byte) bool {
	if b == Nothing || r.Peek() != b {
		return false
	}
	r.place++
	return true
}

// Expect takes the bytes of the text that has to stand ahead.
func (r *Reader) Expect(text string) error {
	for i := range len(text) {
		if !r.Take(text[i]) {
			return r.Fail()
		}
	}
	return nil
}

// OneOf takes the one of the words that stands ahead, and tells which one it is. No word may begin another one.
func (r *Reader) OneOf(words []string) (int, error) {
	from := r.place
	for {
		taken := r.text[from:r.place]
		if i := slices.Index(words, taken); i >= 0 {
			return i, nil
		}
		goesOn := func(word string) bool {
			return strings.HasPrefix(word, taken) && word[len(taken)] == r.Peek()
		}
		if !slices.ContainsFunc(words, goesOn) {
			return 0, r.Fail()
		}
		r.place++
	}
}

// Spaces takes all spaces ahead, and tells whether there were any.
func (r *Reader) Spaces() bool {
	from := r.place
	for isSpace(r.Peek()) {
		r.place++
	}
	return r.place > from
}

// Name takes a name, and tells it in small letters.
func (r *Reader) Name() (string, error) {
	return r.NewName(func(string) bool { return false })
}

// NewName takes a name that is not taken yet, and tells it in small letters.
func (r *Reader) NewName(taken func(name string) bool) (string, error) {
	if !isLetter(r.Peek()) {
		return "", r.Fail()
	}
	name := Small(r.run(isNameByte))
	again := taken(name)
	if again && len(name) == api.MaxName {
		// A shorter one may still go on to another name; of this one the last byte is too much already.
		r.place--
	}
	if again || isNameByte(r.Peek()) {
		return "", r.Fail()
	}
	return name, nil
}

// Word takes a word.
func (r *Reader) Word() (string, error) {
	word := r.run(isWordByte)
	if word == "" || isWordByte(r.Peek()) {
		return "", r.Fail()
	}
	return strings.Clone(word), nil
}

// run takes the bytes ahead that are of that kind, no more than a name may have.
func (r *Reader) run(isPart func(b byte) bool) string {
	from := r.place
	for isPart(r.Peek()) && r.place-from < api.MaxName {
		r.place++
	}
	return r.text[from:r.place]
}

// Digit takes a digit, if one is ahead, and tells its value.
func (r *Reader) Digit() (int, bool) {
	b := r.Peek()
	if !isDigit(b) {
		return 0, false
	}
	r.place++
	return int(b - '0'), true
}

// Until takes all bytes ahead of that one, and tells them.
func (r *Reader) Until(end byte) string {
	from := r.place
	for r.Peek() != end && r.Peek() != Nothing {
		r.place++
	}
	return strings.Clone(r.text[from:r.place])
}

// ExpectName takes the name that has to stand ahead, told in small letters.
func (r *Reader) ExpectName(name string) error {
	for i := range len(name) {
		if smallByte(r.Peek()) != name[i] {
			return r.Fail()
		}
		r.Skip()
	}
	if isNameByte(r.Peek()) {
		return r.Fail()
	}
	return nil
}

// Fail tells that the text can't go on as it does from here.
func (r *Reader) Fail() error { return &api.Fault{Code: api.ErrSyntax, Place: r.place} }
