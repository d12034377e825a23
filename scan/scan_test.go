package scan

import (
	"errors"
	"testing"

	"copse/api"
)

// failsAt checks that the error tells that place.
func failsAt(t *testing.T, err error, place int) {
	t.Helper()
	var fault *api.Fault
	if !errors.As(err, &fault) || *fault != (api.Fault{Code: api.ErrSyntax, Place: place}) {
		t.Errorf("%v (%v); want a fault at %d", err, fault, place)
	}
}

func TestPeekTellsOnlyAllowedBytes(t *testing.T) {
	for b := range 256 {
		want := byte(b)
		if b != 9 && b != 10 && (b < 32 || b > 126) {
			want = Nothing
		}
		r := NewReader(string([]byte{byte(b)}))
		if r.Peek() != want || r.Take(byte(b)) != (want != Nothing) || r.Done() != (want != Nothing) {
			t.Errorf("byte %d: ahead is %d, done: %v", b, r.Peek(), r.Done())
		}
	}
}

func TestNothingIsTakenAtTheEnd(t *testing.T) {
	for _, text := range []string{"", "\x00"} {
		r := NewReader(text)
		r.Skip()
		if r.Peek() != Nothing || r.Take(Nothing) || r.Spaces() {
			t.Errorf("something is ahead of %q", text)
		}
		failsAt(t, r.Fail(), 0)
		failsAt(t, r.Expect("x"), 0)
		failsAt(t, r.ExpectName("x"), 0)
		_, err := r.OneOf([]string{"x", "yz"})
		failsAt(t, err, 0)
		_, err = r.Word()
		failsAt(t, err, 0)
		if digit, ok := r.Digit(); digit != 0 || ok || r.Until('x') != "" {
			t.Errorf("something is taken of %q", text)
		}
	}
}

func TestExpectStopsAtTheFirstOtherByte(t *testing.T) {
	failsAt(t, NewReader("abx").Expect("abc"), 2)
	failsAt(t, NewReader("ab").Expect("abc"), 2)
	failsAt(t, NewReader("ABd").ExpectName("abc"), 2)
	failsAt(t, NewReader("ABcd").ExpectName("abc"), 3)
	if NewReader("abcd").Expect("abc") != nil || NewReader("aBc_").ExpectName("abc") != nil {
		t.Error("what stands ahead is not taken")
	}
}

func TestNames(t *testing.T) {
	const longest = "abcdefghijklmnop"
	for _, c := range []struct {
		text  string
		name  string
		place int
	}{
		{"a", "a", 0}, {"A-1_", "a-1", 0}, {longest + ".", longest, 0}, {longest + "q", "", 16}, {"", "", 0}, {"-a", "", 0}, {"1", "", 0}, {"\xc3", "", 0},
		{"taken", "", 5}, {"TAKEN ", "", 5}, {"takens", "takens", 0}, {"ABCDEFGHIJKLMNOT", "", 15}, {"abcdefghijklmnotq", "", 15},
	} {
		taken := func(name string) bool { return name == "taken" || name == "abcdefghijklmnot" }
		name, err := NewReader(c.text).NewName(taken)
		if name != c.name || (err == nil) != (c.name != "") {
			t.Errorf("name of %q: %q, %v; want %q", c.text, name, err, c.name)
		}
		if err != nil {
			failsAt(t, err, c.place)
		}
	}
	if name, err := NewReader("Taken").Name(); name != "taken" || err != nil {
		t.Errorf("a name where none is taken: %q, %v", name, err)
	}
}

func TestWords(t *testing.T) {
	const longest = "_bcdefghijklmn-9"
	for _, c := range []struct {
		text  string
		word  string
		place int
	}{
		{"a", "a", 0}, {"A-1_.", "A-1_", 0}, {"1", "1", 0}, {"-", "-", 0}, {"_ a", "_", 0}, {longest, longest, 0}, {longest + "]", longest, 0}, {longest + "_", "", 16}, {longest + "a.", "", 16}, {"", "", 0}, {" a", "", 0}, {".a", "", 0}, {"\xc3", "", 0},
	} {
		word, err := NewReader(c.text).Word()
		if word != c.word || (err == nil) != (c.word != "") {
			t.Errorf("word of %q: %q, %v; want %q", c.text, word, err, c.word)
		}
		if err != nil {
			failsAt(t, err, c.place)
		}
	}
}

func TestOneOf(t *testing.T) {
	words := []string{"not", "nth", "is", "="}
	for i, word := range words {
		for _, behind := range []string{"", " ", "x", "\x00"} {
			r := NewReader(word + behind)
			if got, err := r.OneOf(words); got != i || err != nil {
				t.Errorf("OneOf at %q: %d, %v", word+behind, got, err)
			}
			failsAt(t, r.Fail(), len(word))
		}
	}
	for text, place := range map[string]int{"": 0, "x": 0, "n": 1, "nx": 1, "no": 2, "nt": 2, "nto": 2, "i": 1, "Is": 0, "iS": 1, "\x00": 0, "n\x00": 1} {
		_, err := NewReader(text).OneOf(words)
		failsAt(t, err, place)
	}
}

func TestDigits(t *testing.T) {
	for b := range 256 {
		r := NewReader(string([]byte{byte(b)}))
		digit, ok := r.Digit()
		if is := b >= '0' && b <= '9'; ok != is || r.Done() != is || is && digit != b-'0' || !is && digit != 0 {
			t.Errorf("byte %d: digit %d, %v", b, digit, ok)
		}
	}
}

func TestUntil(t *testing.T) {
	for _, c := range [][2]string{{"", ""}, {"\"", ""}, {"ab\"c\"", "ab"}, {"a b", "a b"}, {"a\x00b\"", "a"}, {"\n\t]'\"", "\n\t]'"}} {
		r := NewReader(c[0])
		if got := r.Until('"'); got != c[1] {
			t.Errorf("Until in %q: %q; want %q", c[0], got, c[1])
		}
		failsAt(t, r.Fail(), len(c[1]))
	}
}

func TestSmallChangesOnlyCapitals(t *testing.T) {
	for text, want := range map[string]string{"": "", "AbZ@[`{09-": "abz@[`{09-", "\u212aÉ\xff": "\u212aÉ\xff"} {
		if got := Small(text); got != want {
			t.Errorf("Small(%q) = %q; want %q", text, got, want)
		}
	}
}

func TestWhileWraps(t *testing.T) {
	if err := While("x", nil); err != nil {
		t.Errorf("nothing went wrong, and it is %v", err)
	}
	cause := errors.New("cause")
	if err := While("x", While("y", cause)); !errors.Is(err, cause) || err.Error() != "x: y: cause" {
		t.Errorf("wrapped twice: %v", err)
	}
}
