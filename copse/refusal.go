package copse

import (
	"errors"
	"strconv"

	"copse/api"
)

// A refusal is what a caller is told of a text that was refused: the fault is found in it.
type refusal struct{ cause error }

// Error tells it in words. Only what has the wrong form went wrong at one place of the text.
func (r *refusal) Error() string {
	told := r.cause.Error()
	var fault *api.Fault
	if errors.Is(r.cause, api.ErrSyntax) && errors.As(r.cause, &fault) {
		told += ", at byte " + strconv.Itoa(fault.Place)
	}
	return told
}

// Unwrap gives what went wrong further in.
func (r *refusal) Unwrap() error { return r.cause }
