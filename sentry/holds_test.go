package sentry

import (
	"strings"
	"testing"

	"sentry/api"
)

// traces gives all traces of these activities with up to length events.
func traces(acts string, length int) [][]string {
	out := [][]string{nil}
	for i := 0; i < len(out); i++ {
		if len(out[i]) == length {
			break
		}
		for _, a := range strings.Split(acts, "") {
			out = append(out, append(append([]string{}, out[i]...), a))
		}
	}
	return out
}

func mustHold(t *testing.T, model string, trace []string, want bool) {
	t.Helper()
	if got, e := Holds(model, trace); got != want || e != api.OK {
		t.Errorf("P4: Holds(%q, %.80q) = %v, %d, want %v", model, trace, got, e, want)
	}
}

func TestHoldsExamples(t *testing.T) {
	model := "acts a, b; rule response(a, b);"
	mustHold(t, model, []string{"a", "b", "a"}, false)
	mustHold(t, model, []string{"a", "b"}, true)
	mustHold(t, model, nil, true)
	mustHold(t, model, []string{}, true)
}

func TestHoldsNeedsEachRule(t *testing.T) {
	mustHold(t, "acts a;", nil, true)
	mustHold(t, "acts a;", []string{"a"}, true)
	model := "acts a, b, c, d; rule F a; rule F b; rule F c; rule F d;"
	mustHold(t, model, strings.Split("dcba", ""), true)
	for _, three := range []string{"abc", "abd", "acd", "bcd"} {
		mustHold(t, model, strings.Split(three, ""), false)
	}
}

func TestHoldsOfWrongTraces(t *testing.T) {
	for _, trace := range [][]string{{"b"}, {""}, {"a", "aa"}, {"A"}, {"a "}, {"true"}, {"a", "a", "\xff"}, {strings.Repeat("a", 5000)}} {
		for _, rule := range []string{"", "rule a;", "rule false;"} {
			if ok, e := Holds("acts a;"+rule, trace); ok || e != api.ErrName {
				t.Errorf("P4: %q of %.40q: %v, %d", rule, trace, ok, e)
			}
		}
	}
	if ok, e := Holds("acts a; rule b;", []string{"a"}); ok || e != api.ErrName {
		t.Errorf("P4: a model with a fault: %v, %d", ok, e)
	}
	if ok, e := Holds("acts a", []string{"b"}); ok || e != api.ErrForm {
		t.Errorf("P4: the model's fault comes first: %v, %d", ok, e)
	}
}

// TestTemplatesSayWhatTheyMean holds each template against what it means, said in Go and not by a formula.
func TestTemplatesSayWhatTheyMean(t *testing.T) {
	has := strings.Contains
	count := strings.Count
	meanings := map[string]func(s string) bool{
		"init(a)":        func(s string) bool { return strings.HasPrefix(s, "a") },
		"last(a)":        func(s string) bool { return strings.HasSuffix(s, "a") },
		"some(a, 1)":     func(s string) bool { return count(s, "a") >= 1 },
		"some(a, 2)":     func(s string) bool { return count(s, "a") >= 2 },
		"some(a, 3)":     func(s string) bool { return count(s, "a") >= 3 },
		"few(a, 1)":      func(s string) bool { return count(s, "a") < 1 },
		"few(a, 2)":      func(s string) bool { return count(s, "a") < 2 },
		"few(a, 3)":      func(s string) bool { return count(s, "a") < 3 },
		"response(a, b)": func(s string) bool { return strings.LastIndex(s, "a") <= strings.LastIndex(s, "b") },
		"precede(a, b)":  func(s string) bool { head, _, _ := strings.Cut(s, "a"); return !has(head, "b") },
		"chain(a, b)":    func(s string) bool { return count(s, "a") == count(s, "ab") },
		"before(a, b)":   func(s string) bool { return count(s, "b") == count(s, "ab") },
		"with(a, b)":     func(s string) bool { return !has(s, "a") || has(s, "b") },
		"apart(a, b)":    func(s string) bool { return !has(s, "a") || !has(s, "b") },
		"never(a, b)":    func(s string) bool { _, tail, _ := strings.Cut(s, "a"); return !has(tail, "b") },
		"notnext(a, b)":  func(s string) bool { return !has(s, "ab") },
	}
	for rule, means := range meanings {
		for _, trace := range traces("abc", 5) {
			mustHold(t, "acts c, b, a; rule "+rule+";", trace, means(strings.Join(trace, "")))
		}
	}
}

// TestTemplatesStandForTheirFormulas writes the document's formulas out, and with the same activity twice.
func TestTemplatesStandForTheirFormulas(t *testing.T) {
	for _, c := range []struct{ rule, formula string }{
		{"init(a)", "a"},
		{"last(a)", "F (a & !X true)"},
		{"some(a, 1)", "F a"},
		{"some(a, 2)", "F (a & X F a)"},
		{"some(a, 3)", "F (a & X F (a & X F a))"},
		{"few(a, 1)", "!F a"},
		{"few(a, 2)", "!F (a & X F a)"},
		{"few(a, 3)", "!F (a & X F (a & X F a))"},
		{"response(a, b)", "G (a -> F b)"},
		{"precede(a, b)", "!b U a | G !b"},
		{"chain(a, b)", "G (a -> X b)"},
		{"before(a, b)", "!b & G (X b -> a)"},
		{"with(a, b)", "F a -> F b"},
		{"apart(a, b)", "!(F a & F b)"},
		{"never(a, b)", "G (a -> N G !b)"},
		{"notnext(a, b)", "G (a -> !X b)"},
	} {
		for _, trace := range traces("ab", 4) {
			for _, b := range []string{"b", "a"} {
				// "before" and "notnext" have a b in their words: only the argument is to change
				rule := strings.Replace(c.rule, ", b)", ", "+b+")", 1)
				formula := strings.ReplaceAll(c.formula, "b", b)
				want, e := Holds("acts a, b; rule "+formula+";", trace)
				if e != api.OK {
					t.Fatalf("%s: %d", formula, e)
				}
				mustHold(t, "acts a, b; rule "+rule+";", trace, want)
			}
		}
	}
}

func TestHoldsOfLongTraces(t *testing.T) {
	long := strings.Split(strings.Repeat("ab", 200000), "")
	mustHold(t, "acts a, b; rule response(a, b); rule precede(a, b);", long, true)
	mustHold(t, "acts a, b; rule G (a -> X b) & G (b -> N a);", long, true)
	mustHold(t, "acts a, b; rule G F (a & X b) U (b & !X true);", long, false)
	mustHold(t, "acts a, b; rule last(a);", long, false)
}
