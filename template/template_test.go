package template

import (
	"slices"
	"testing"

	"sentry/formula"
)

func TestEachTemplate(t *testing.T) {
	one := []Param{Activity}
	two := []Param{Activity, Activity}
	times := []Param{Activity, Number}
	for _, c := range []struct {
		word  string
		n     int
		takes []Param
		want  string
	}{
		{"init", 0, one, "a"},
		{"last", 0, one, "F (a & ! X true)"},
		{"some", 1, times, "F a"},
		{"some", 2, times, "F (a & X F a)"},
		{"some", 3, times, "F (a & X F (a & X F a))"},
		{"few", 1, times, "! F a"},
		{"few", 2, times, "! F (a & X F a)"},
		{"few", 3, times, "! F (a & X F (a & X F a))"},
		{"response", 0, two, "G (a -> F b)"},
		{"precede", 0, two, "((! b U a) | G ! b)"},
		{"chain", 0, two, "G (a -> X b)"},
		{"before", 0, two, "(! b & G (X b -> a))"},
		{"with", 0, two, "(F a -> F b)"},
		{"apart", 0, two, "! (F a & F b)"},
		{"never", 0, two, "G (a -> N G ! b)"},
		{"notnext", 0, two, "G (a -> ! X b)"},
	} {
		found, ok := Find(c.word)
		if !ok || found.Word != c.word || !slices.Equal(found.Takes, c.takes) {
			t.Errorf("P3: Find(%q) = %q, %v, %v", c.word, found.Word, found.Takes, ok)
			continue
		}
		f := found.Formula(formula.Activity("a"), formula.Activity("b"), c.n)
		if got := f.Text(); got != c.want {
			t.Errorf("P4: %s %d stands for %q, want %q", c.word, c.n, got, c.want)
		}
	}
}

func TestNoTemplate(t *testing.T) {
	for _, word := range []string{"", "a", "ini", "inits", "Init", "end"} {
		if found, ok := Find(word); ok || found.Word != "" || found.Takes != nil || found.Formula != nil {
			t.Errorf("P3: Find(%q) = %q, %v", word, found.Word, ok)
		}
	}
}
