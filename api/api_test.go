package api

import (
	"errors"
	"testing"
)

func TestLimits(t *testing.T) {
	got := [...]int{MaxText, MaxSelector, MaxName, MaxElements, MaxDepth, MaxSimples, MaxNest}
	if want := [...]int{2000, 200, 16, 100, 12, 24, 4}; got != want {
		t.Errorf("limits: %v; want %v", got, want)
	}
}

func TestFaultTellsItsCode(t *testing.T) {
	for i, code := range []Errno{ErrLong, ErrSyntax, ErrLimit} {
		if int(code) != i+1 {
			t.Errorf("code %d; want %d", code, i+1)
		}
		fault := &Fault{Code: code, Place: 7}
		if !errors.Is(fault, code) || errors.Is(fault, code+1) || fault.Error() != code.Error() {
			t.Errorf("fault of code %d: %v", code, fault)
		}
	}
}
