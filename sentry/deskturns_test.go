package sentry

import (
	"maps"
	"math/rand"
	"slices"
	"testing"

	"sentry/api"
)

// plain is a desk as the document's words say it: it has the events of each case and finds all else anew.
type plain struct {
	table api.Table
	cases map[string][]string
}

func (p plain) start(id string) api.Errno {
	if _, ok := p.cases[id]; ok {
		return api.ErrCase
	}
	if len(p.cases) == api.MaxCases {
		return api.ErrFull
	}
	p.cases[id] = []string{}
	return api.OK
}

func (p plain) event(id, act string) api.Errno {
	e := p.mayCome(id, act)
	if e == api.OK {
		p.cases[id] = append(p.cases[id], act)
	}
	return e
}

func (p plain) mayCome(id, act string) api.Errno {
	came, ok := p.cases[id]
	switch {
	case !ok:
		return api.ErrCase
	case !slices.Contains(p.table.Acts, act):
		return api.ErrName
	case !reachesAccept(p.table, lead(p.table, append(slices.Clone(came), act))):
		return api.ErrBlock
	}
	return api.OK
}

func (p plain) options(id string) []string {
	return slices.DeleteFunc(slices.Clone(p.table.Acts), func(act string) bool { return p.mayCome(id, act) != api.OK })
}

func (p plain) mayEnd(id string) bool {
	return p.table.Flags[lead(p.table, p.cases[id])]&api.Accept != 0
}

func (p plain) end(id string) api.Errno {
	if _, ok := p.cases[id]; !ok {
		return api.ErrCase
	}
	if !p.mayEnd(id) {
		return api.ErrEnd
	}
	delete(p.cases, id)
	return api.OK
}

// checkAlike asks a desk all that changes nothing, and twice, as asking might change something.
func checkAlike(t *testing.T, d *Desk, p plain, ids []string) {
	t.Helper()
	for range 2 {
		mustHave(t, d, slices.Sorted(maps.Keys(p.cases))...)
		for _, id := range ids {
			came, there := p.cases[id]
			if !there {
				mustMiss(t, d, id)
				continue
			}
			mustTell(t, d, id, len(came), p.mayEnd(id))
			mustOffer(t, d, id, p.options(id)...)
		}
	}
}

// TestDesksInTurns has several desks, two of them of one table, and holds all of them against plain ones behind each call: a call that is refused changes nothing, and one on a desk nothing on another.
func TestDesksInTurns(t *testing.T) {
	for _, models := range [][]string{
		{"acts a, b; rule response(a, b);", "acts a, b; rule response(a, b);", "acts b, a; rule precede(a, b); rule few(a, 2);"},
		{"acts c, a, b; rule chain(a, b); rule few(b, 3);", "acts b, c, a; rule last(b);", "acts a, b, c; rule apart(a, b);"},
		{"acts a, b, c; rule some(a, 2); rule never(b, a);", "acts a;", "acts c, b; rule end | b & X c;"},
	} {
		var desks []*Desk
		var plains []plain
		for _, m := range models {
			desks = append(desks, deskOf(t, m))
			plains = append(plains, plain{mustCompile(t, m), map[string][]string{}})
		}
		playTurns(t, desks, plains)
	}
}

// playTurns counts the answers of each call: a play that leaves one out would show nothing of it.
func playTurns(t *testing.T, desks []*Desk, plains []plain) {
	t.Helper()
	ids := []string{"", "a", "b", "B", "aa", "x", "y", "z", "\xff", "é"}
	acts := []string{"a", "b", "c", "a", "b", "", "none"}
	r := rand.New(rand.NewSource(4))
	answers := map[string]int{}
	for range 3000 {
		i := r.Intn(len(desks))
		id, act := ids[r.Intn(len(ids))], acts[r.Intn(len(acts))]
		var call string
		var got, want api.Errno
		switch k := r.Intn(10); {
		case k < 3:
			call, got, want = "Start", desks[i].Start(id), plains[i].start(id)
		case k < 9:
			call, got, want = "Event", desks[i].Event(id, act), plains[i].event(id, act)
		default:
			call, got, want = "End", desks[i].End(id), plains[i].end(id)
		}
		if got != want {
			t.Fatalf("P9, P10, P13: %s(%q, %q) = %d, want %d", call, id, act, got, want)
		}
		answers[call+string(rune('0'+got))]++
		for k, d := range desks {
			checkAlike(t, d, plains[k], ids)
		}
	}
	for _, a := range []string{"Start0", "Start8", "Start;", "Event0", "Event3", "Event8", "Event9", "End0", "End8", "End:"} {
		if answers[a] == 0 {
			t.Errorf("no call was answered %s: %v", a, answers)
		}
	}
}

// TestDeskOfTablesThatNoModelHas: states that are alike, that are not met, and that lead back.
func TestDeskOfTablesThatNoModelHas(t *testing.T) {
	for _, g := range rightTables(t) {
		if g.Flags[0]&api.Alive == 0 {
			continue
		}
		d, p := mustOpen(t, tableBytes(t, g)), plain{g, map[string][]string{}}
		mustAnswer(t, "P9", d.Start("x"), p.start("x"))
		for i := range 2 * len(g.Flags) {
			act := g.Acts[i%len(g.Acts)]
			mustAnswer(t, "P10", d.Event("x", act), p.event("x", act))
			checkAlike(t, d, p, []string{"x"})
		}
	}
}
