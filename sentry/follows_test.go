package sentry

import (
	"slices"
	"strings"
	"testing"

	"sentry/api"
)

// watch has a trace come on a case of a new desk of these bytes: how many events come ahead of one that is blocked, and whether the case can end then.
func watch(t *testing.T, b string, trace []string) (int, bool) {
	t.Helper()
	d := mustOpen(t, b)
	mustAnswer(t, "P9", d.Start("x"), api.OK)
	for i, act := range trace {
		if e := d.Event("x", act); e != api.OK {
			mustAnswer(t, "P10", e, api.ErrBlock)
			return i, false
		}
	}
	return len(trace), d.End("x") == api.OK
}

// checkWatched holds the first two sentences of P15. From a state that is Alive fewer events than there are states lead to an end: so behind must have all traces of that many.
func checkWatched(t *testing.T, model string, all, behind [][]string, keeps func(trace []string) bool) {
	t.Helper()
	g := mustCompile(t, model)
	if longest := len(behind[len(behind)-1]); len(g.Flags) > longest+1 {
		t.Fatalf("%q: %d states, and only %d events to go on", model, len(g.Flags), longest)
	}
	b := tableBytes(t, g)
	could := func(came []string) bool {
		return slices.ContainsFunc(behind, func(more []string) bool { return keeps(slices.Concat(came, more)) })
	}
	if g.Flags[0]&api.Alive == 0 {
		if could(nil) {
			t.Errorf("P15: %q: no case can ever end, but a trace keeps it", model)
		}
		mustNotOpen(t, model, b, api.ErrNever)
		return
	}
	for _, trace := range all {
		n, ended := watch(t, b, trace)
		mustHold(t, model, trace, ended) // P15
		if n < len(trace) && could(trace[:n+1]) || !could(trace[:n]) {
			t.Errorf("P15: %q: the trace %q was blocked behind %d events", model, trace, n)
		}
	}
}

func TestDesksLetComeWhatKeepsTheModel(t *testing.T) {
	leaves := []string{"a", "b", "true", "false", "end"}
	all, behind := traces("ab", 4), traces("ab", 5)
	for _, some := range trees(4, leaves, []string{"!", "X", "N", "F", "G"}, []string{"->", "|", "&", "U"}) {
		for _, f := range some {
			checkWatched(t, "acts b, a; rule "+f.full()+";", all, behind, func(trace []string) bool { return f.holds(trace, 1) })
		}
	}
}

func TestDesksOfTemplates(t *testing.T) {
	all, behind := traces("abc", 4), traces("abc", 4)
	for _, set := range [][]string{
		{"init(a)"}, {"last(a)"}, {"some(a, 1)"}, {"some(b, 2)"}, {"some(c, 3)"}, {"few(a, 1)"}, {"few(b, 2)"}, {"few(c, 3)"},
		{"response(a, b)"}, {"precede(a, b)"}, {"chain(a, b)"}, {"before(a, b)"}, {"with(a, b)"}, {"apart(a, b)"}, {"never(a, b)"}, {"notnext(a, b)"},
		{"response(a, a)"}, {"chain(c, c)"}, {"before(a, a)"}, {"apart(a, a)"}, {"never(a, a)"},
		{"chain(a, b)", "few(b, 2)"}, {"response(a, b)", "never(c, b)"}, {"init(a)", "init(b)"}, {"F a", "last(b)", "!c"},
	} {
		model := "acts b, c, a; rule " + strings.Join(set, "; rule ") + ";"
		checkWatched(t, model, all, behind, byHolds(model))
	}
}

func TestDesksOfManyStates(t *testing.T) {
	for _, rules := range []string{"rule F (a & X X X X X N false);", "rule F (a & X X X N N X X ! a); rule F N N a;"} {
		model := "acts a, b; " + rules
		b := tableBytes(t, mustCompile(t, model))
		keeps := byHolds(model)
		for _, trace := range traces("ab", 9) {
			if _, ended := watch(t, b, trace); ended != keeps(trace) {
				t.Errorf("P15: %q: the trace %q: ended %v", model, trace, ended)
			}
		}
	}
}

// TestSameTracesSameTable: the third sentence of P15. If traces of up to seven events were too short to tell two of these models apart, the test would fail.
func TestSameTracesSameTable(t *testing.T) {
	all := traces("ab", 7)
	byTraces, byBytes := map[string]string{}, map[string]string{}
	for _, some := range trees(4, []string{"a", "b", "end"}, []string{"!", "X", "N", "F", "G"}, []string{"->", "|", "&", "U"}) {
		for _, f := range some {
			kept := make([]byte, len(all))
			for i, trace := range all {
				if f.holds(trace, 1) {
					kept[i] = 1
				}
			}
			b := tableBytes(t, mustCompile(t, "acts a, b; rule "+f.full()+";"))
			if x, ok := byTraces[string(kept)]; ok && x != b {
				t.Errorf("P15: %s: the same traces as those of another, and another table", f.full())
			}
			if x, ok := byBytes[b]; ok && x != string(kept) {
				t.Errorf("P15: %s: the table of another, and other traces", f.full())
			}
			byTraces[string(kept)], byBytes[b] = b, string(kept)
		}
	}
	if len(byTraces) < 50 {
		t.Errorf("only %d tables", len(byTraces))
	}
}
