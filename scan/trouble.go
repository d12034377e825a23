package scan

// Trouble is a fault on its way out: whoever was reading says what it was.
type Trouble struct {
	reading string
	cause   error
}

// While wraps what went wrong, if anything did, with what was being read.
func While(reading string, cause error) error {
	if cause == nil {
		return nil
	}
	return &Trouble{reading: reading, cause: cause}
}

// Error tells it in words, from the outside in.
func (t *Trouble) Error() string { return t.reading + ": " + t.cause.Error() }

// Unwrap gives what went wrong further in.
func (t *Trouble) Unwrap() error { return t.cause }
