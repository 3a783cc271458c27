package sentry

import (
	"slices"
	"strings"
	"testing"

	"sentry/api"
)

// checkSafe holds what P1 says of any text: no panic, and nothing beside an error but Print's place.
func checkSafe(t *testing.T, model string) {
	t.Helper()
	s, at, e := Print(model)
	if (e == api.OK) != (s != "") || e == api.OK && at != 0 || at < 0 || at > len(model) {
		t.Errorf("P1: Print(%.80q) = %q, %d, %d", model, s, at, e)
	}
	if e != api.OK && e != api.ErrLong && e != api.ErrForm && e != api.ErrName && e != api.ErrCount {
		t.Errorf("P3: Print(%.80q): error %d", model, e)
	}
	ok, f := Holds(model, nil)
	if f != e || e != api.OK && ok {
		t.Errorf("P1: Holds(%.80q) = %v, %d, and Print %d", model, ok, f, e)
	}
	g, f := Compile(model)
	if f != e && (e != api.OK || f != api.ErrBig) || (f != api.OK) != isZero(g) {
		t.Errorf("P1: Compile(%.80q) = %v, %d, and Print %d", model, g, f, e)
	}
	if e == api.OK {
		if again, _, e := Print(s); again != s || e != api.OK {
			t.Errorf("P3: Print(%q) = %q, %d", s, again, e)
		}
	}
}

func TestAnyTextIsSafe(t *testing.T) {
	model := "acts a, b; rule some(a, 2); rule (!a U X b) | N F G end -> true;"
	for i := 0; i <= len(model); i++ {
		checkSafe(t, model[:i])
		checkSafe(t, model[i:])
		for b := 0; b < 256; b++ {
			one := string([]byte{byte(b)})
			checkSafe(t, model[:i]+one+model[i:])
			if i < len(model) {
				checkSafe(t, model[:i]+one+model[i+1:])
			}
		}
	}
}

func TestLongTextsAreSafe(t *testing.T) {
	for _, part := range []string{"(", "!", "a", " ", "\x00", "a,", "rule a;", "a->", "a U "} {
		for _, n := range []int{50, 99, 387, 400, 1 << 20} {
			checkSafe(t, strings.Repeat(part, n))
			checkSafe(t, "acts a; rule "+strings.Repeat(part, n))
			checkSafe(t, "acts "+strings.Repeat(part, n)+"a;")
		}
	}
}

// TestTraceIsLeftAlone looks at the trace and at the spare room behind it (P2).
func TestTraceIsLeftAlone(t *testing.T) {
	whole := []string{"b", "a", "b", "a", "spare", "room"}
	before := slices.Clone(whole)
	for n := range 5 {
		Holds("acts a, b; rule chain(a, b); rule F a & G b;", whole[:n])
		Holds("acts a; rule F a;", whole[:n])
	}
	if !slices.Equal(whole, before) {
		t.Errorf("P2: the trace became %q", whole)
	}
}

// TestAnswersHangOnNothingBefore asks again after other calls, and after the trace has been written into (P2).
func TestAnswersHangOnNothingBefore(t *testing.T) {
	model := "acts a, b; rule init(a);"
	trace := []string{"a"}
	mustHold(t, model, trace, true)
	trace[0] = "b"
	mustHold(t, model, trace, false)
	Print("acts b; rule (")
	trace[0] = "a"
	mustHold(t, model, trace, true)
}
