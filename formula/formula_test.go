package formula

import (
	"strings"
	"testing"
)

func samples() map[string]*Formula {
	a, b := Activity("a"), Activity("b")
	return map[string]*Formula{
		"a":           a,
		"true":        Word(True),
		"false":       Word(False),
		"end":         Word(End),
		"! a":         One(Not, a),
		"X a":         One(Next, a),
		"N a":         One(WeakNext, a),
		"F a":         One(Finally, a),
		"G a":         One(Globally, a),
		"(a U b)":     Two(Until, a, b),
		"(a & b)":     Two(And, a, b),
		"(a | b)":     Two(Or, a, b),
		"(a -> b)":    Two(Implies, a, b),
		"! (a U ! b)": One(Not, Two(Until, a, One(Not, b))),
	}
}

func TestTextOfEachKind(t *testing.T) {
	for want, f := range samples() {
		if got := f.Text(); got != want {
			t.Errorf("P3: text %q, want %q", got, want)
		}
	}
}

func TestNodesLeaveOutBrackets(t *testing.T) {
	for text, f := range samples() {
		want := len(strings.Fields(text))
		if got := f.Nodes(); got != want {
			t.Errorf("P3: %s has %d nodes, want %d", text, got, want)
		}
	}
}

func TestNodesCountASharedPartEachTime(t *testing.T) {
	f := One(Finally, Activity("a"))
	if n := Two(And, f, f).Nodes(); n != 5 {
		t.Errorf("P3: %d nodes, want 5", n)
	}
}

func TestHoldsAtTheLastPlaces(t *testing.T) {
	yes := Word(True)
	no := Word(False)
	for _, c := range []struct {
		f     *Formula
		holds [3]bool // of no event, one, two
	}{
		{One(Next, yes), [3]bool{false, false, true}},
		{One(WeakNext, no), [3]bool{true, true, false}},
		{One(Finally, yes), [3]bool{false, true, true}},
		{One(Globally, no), [3]bool{true, false, false}},
		{Two(Until, yes, yes), [3]bool{false, true, true}},
		{Word(End), [3]bool{true, false, false}},
		{One(Finally, Word(End)), [3]bool{false, false, false}},
		{One(Next, Word(End)), [3]bool{false, false, false}},
	} {
		for n, want := range c.holds {
			if got := NewWalk([]*Formula{c.f}).Holds([]string{"a", "a"}[:n]); got != want {
				t.Errorf("P4: %s of %d events: %v, want %v", c.f.Text(), n, got, want)
			}
		}
	}
}
