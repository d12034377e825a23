package markup

import (
	"errors"
	"testing"

	"copse/api"
)

func TestReadAndWrite(t *testing.T) {
	for text, want := range map[string]string{
		"":                                    "",
		"a<B c=\"&gt;&quot;\">&gt;<br/></b>d": "a<b c=\">&quot;\">&gt;<br></b>d",
		"<a/><!-- x --><b></b>":               "<a></a><b></b>",
	} {
		read, err := Read(text)
		if err != nil {
			t.Errorf("Read(%q): %v", text, err)
			continue
		}
		if got := Write(read); got != want {
			t.Errorf("%q is written %q; want %q", text, got, want)
		}
	}
}

func TestReadGivesNoTreeBesideAnError(t *testing.T) {
	for text, code := range map[string]api.Errno{
		"<p":                       api.ErrSyntax,
		string(make([]byte, 2001)): api.ErrLong,
		"<a><a><a><a><a><a><a><a><a><a><a><a><br></a></a></a></a></a></a></a></a></a></a></a></a>": api.ErrLimit,
	} {
		if read, err := Read(text); read != nil || !errors.Is(err, code) {
			t.Errorf("Read(%.20q...) = %v, %v; want code %d", text, read, err, code)
		}
	}
}

func TestReferencesAreToldByTheirFirstLetter(t *testing.T) {
	for i, a := range references {
		for _, b := range references[:i] {
			if a.written[0] == b.written[0] {
				t.Errorf("%q and %q begin alike", a.written, b.written)
			}
		}
	}
}
