package scan

import (
	"errors"
	"testing"

	"copse/api"
)

// failsAt checks that the error tells that place.
func failsAt(t *testing.T, err error, place int) {
	t.Helper()
	var fault *api.Fault
	if !errors.As(err, &fault) || *fault != (api.Fault{Code: api.ErrSyntax, Place: place}) {
		t.Errorf("%v (%v); want a fault at %d", err, fault, place)
	}
}

func TestPeekTellsOnlyAllowedBytes(t *testing.T) {
	for b := range 256 {
		want := byte(b)
		if b != 9 && b != 10 && (b < 32 || b > 126) {
			want = Nothing
		}
		r := NewReader(string([]byte{byte(b)}))
		if r.Peek() != want || r.Take(byte(b)) != (want != Nothing) || r.Done() != (want != Nothing) {
			t.Errorf("byte %d: ahead is %d, done: %v", b, r.Peek(), r.Done())
		}
	}
}

func TestNothingIsTakenAtTheEnd(t *testing.T) {
	for _, text := range []string{"", "\x00"} {
		r := NewReader(text)
		r.Skip()
		if r.Peek() != Nothing || r.Take(Nothing) || r.Spaces() {
			t.Errorf("something is ahead of %q", text)
		}
		failsAt(t, r.Fail(), 0)
		failsAt(t, r.Expect("x"), 0)
		failsAt(t, r.ExpectName("x"), 0)
	}
}

func TestExpectStopsAtTheFirstOtherByte(t *testing.T) {
	failsAt(t, NewReader("abx").Expect("abc"), 2)
	failsAt(t, NewReader("ab").Expect("abc"), 2)
	failsAt(t, NewReader("ABd").ExpectName("abc"), 2)
	failsAt(t, NewReader("ABcd").ExpectName("abc"), 3)
	if NewReader("abcd").Expect("abc") != nil || NewReader("aBc_").ExpectName("abc") != nil {
		t.Error("what stands ahead is not taken")
	}
}

func TestNames(t *testing.T) {
	const longest = "abcdefghijklmnop"
	for _, c := range []struct {
		text  string
		name  string
		place int
	}{
		{"a", "a", 0}, {"A-1_", "a-1", 0}, {longest + ".", longest, 0}, {longest + "q", "", 16}, {"", "", 0}, {"-a", "", 0}, {"1", "", 0}, {"\xc3", "", 0},
		{"taken", "", 5}, {"TAKEN ", "", 5}, {"takens", "takens", 0}, {"ABCDEFGHIJKLMNOT", "", 15}, {"abcdefghijklmnotq", "", 15},
	} {
		taken := func(name string) bool { return name == "taken" || name == "abcdefghijklmnot" }
		name, err := NewReader(c.text).NewName(taken)
		if name != c.name || (err == nil) != (c.name != "") {
			t.Errorf("name of %q: %q, %v; want %q", c.text, name, err, c.name)
		}
		if err != nil {
			failsAt(t, err, c.place)
		}
	}
	if name, err := NewReader("Taken").Name(); name != "taken" || err != nil {
		t.Errorf("a name where none is taken: %q, %v", name, err)
	}
}

func TestSmallChangesOnlyCapitals(t *testing.T) {
	for text, want := range map[string]string{"": "", "AbZ@[`{09-": "abz@[`{09-", "\u212aÉ\xff": "\u212aÉ\xff"} {
		if got := Small(text); got != want {
			t.Errorf("Small(%q) = %q; want %q", text, got, want)
		}
	}
}

func TestWhileWraps(t *testing.T) {
	if err := While("x", nil); err != nil {
		t.Errorf("nothing went wrong, and it is %v", err)
	}
	cause := errors.New("cause")
	if err := While("x", While("y", cause)); !errors.Is(err, cause) || err.Error() != "x: y: cause" {
		t.Errorf("wrapped twice: %v", err)
	}
}
