package sentry

import (
	"math/rand"
	"reflect"
	"slices"
	"strings"
	"testing"

	"sentry/api"
)

// tableBytes is for a right table.
func tableBytes(t *testing.T, g api.Table) string {
	t.Helper()
	b, e := Encode(g)
	if e != api.OK {
		t.Fatalf("P6: Encode(%v): %d", g, e)
	}
	return b
}

func mustOpen(t *testing.T, b string) *Desk {
	t.Helper()
	d, e := Open(b)
	if d == nil || e != api.OK {
		t.Fatalf("P8: Open(%q) = %v, %d", b, d, e)
	}
	return d
}

// deskOf gives a desk of a model's table.
func deskOf(t *testing.T, model string) *Desk {
	t.Helper()
	return mustOpen(t, tableBytes(t, mustCompile(t, model)))
}

func mustNotOpen(t *testing.T, why, b string, want api.Errno) {
	t.Helper()
	if d, e := Open(b); d != nil || e != want {
		t.Errorf("P8: %s: Open(%.80q) = %v, %d, want %d", why, b, d, e, want)
	}
}

func TestOpenOfRightTables(t *testing.T) {
	for _, g := range rightTables(t) {
		b := tableBytes(t, g)
		if g.Flags[0]&api.Alive == 0 {
			mustNotOpen(t, "state 0 is not Alive", b, api.ErrNever)
			continue
		}
		if l := mustOpen(t, b).Cases(); len(l) != 0 {
			t.Errorf("P8: a new desk has the cases %q", l)
		}
	}
	deskOf(t, "acts a; rule some(a, 3);") // Alive and not Accept is enough
}

func TestOpenOfModelsThatNoTraceKeeps(t *testing.T) {
	for _, rules := range []string{"rule false;", "rule a & b;", "rule F end;", "rule init(a); rule init(b);", "rule some(a, 2); rule few(a, 2);"} {
		mustNotOpen(t, rules, tableBytes(t, mustCompile(t, "acts a, b; "+rules)), api.ErrNever)
	}
	mustNotOpen(t, "another state is Alive", tableBytes(t, made("a", []int{0, 3}, []int{0}, []int{1})), api.ErrNever)
}

func TestOpenOfWrongBytes(t *testing.T) {
	never, fine := tableBytes(t, made("a", []int{0}, []int{0})), tableBytes(t, ring("ab", 3))
	for _, b := range []string{never, fine} { // of the first both errors could be told
		for i := range len(b) {
			mustNotOpen(t, "cut off", b[:i], api.ErrTable)
			mustNotOpen(t, "one is another", b[:i]+string([]byte{b[i] ^ 1})+b[i+1:], api.ErrTable)
		}
		mustNotOpen(t, "a byte more", b+"\x00", api.ErrTable)
		mustNotOpen(t, "too long", b+strings.Repeat("\x00", api.MaxTable), api.ErrTable)
	}
	mustNotOpen(t, "far too long", strings.Repeat("S\x01", 1<<20), api.ErrTable)
	mustNotOpen(t, "Alive too much", whole("S\x01\x01\x01a\x01\x02\x00"), api.ErrTable)
	mustNotOpen(t, "Alive too little", whole("S\x01\x01\x01a\x01\x01\x00"), api.ErrTable)
	mustNotOpen(t, "no activity", whole("S\x01\x00\x01\x00"), api.ErrTable)
}

func mustAnswer(t *testing.T, what string, got, want api.Errno) {
	t.Helper()
	if got != want {
		t.Errorf("%s: %d, want %d", what, got, want)
	}
}

func mustTell(t *testing.T, d *Desk, id string, events int, mayEnd bool) {
	t.Helper()
	if s, e := d.Tell(id); s != (api.State{Events: events, MayEnd: mayEnd}) || e != api.OK {
		t.Errorf("P12: Tell(%.40q) = %v, %d, want %d, %v", id, s, e, events, mayEnd)
	}
}

func mustOffer(t *testing.T, d *Desk, id string, acts ...string) {
	t.Helper()
	if l, e := d.Options(id); !slices.Equal(l, acts) || e != api.OK {
		t.Errorf("P11: Options(%.40q) = %q, %d, want %q", id, l, e, acts)
	}
}

func mustHave(t *testing.T, d *Desk, ids ...string) {
	t.Helper()
	if l := d.Cases(); !slices.Equal(l, ids) {
		t.Errorf("P14: Cases() = %.200q, want %.200q", l, ids)
	}
}

// mustMiss asks all that can be asked of a case that is not there.
func mustMiss(t *testing.T, d *Desk, id string) {
	t.Helper()
	for _, act := range []string{"a", "b", "", "none", strings.Repeat("a", 1000)} {
		mustAnswer(t, "P10: Event of no case", d.Event(id, act), api.ErrCase)
	}
	if l, e := d.Options(id); l != nil || e != api.ErrCase {
		t.Errorf("P11: Options of no case: %q, %d", l, e)
	}
	if s, e := d.Tell(id); s != (api.State{}) || e != api.ErrCase {
		t.Errorf("P12: Tell of no case: %v, %d", s, e)
	}
	mustAnswer(t, "P13: End of no case", d.End(id), api.ErrCase)
}

func TestDeskExample(t *testing.T) {
	d := deskOf(t, "acts a, b; rule chain(a, b); rule few(b, 2);")
	mustAnswer(t, "P9", d.Start("x"), api.OK)
	mustTell(t, d, "x", 0, true)
	mustOffer(t, d, "x", "a", "b")
	mustAnswer(t, "P10", d.Event("x", "a"), api.OK)
	mustTell(t, d, "x", 1, false)
	mustOffer(t, d, "x", "b")
	mustAnswer(t, "P13", d.End("x"), api.ErrEnd)
	mustAnswer(t, "P10", d.Event("x", "a"), api.ErrBlock)
	mustAnswer(t, "P10", d.Event("x", "b"), api.OK)
	mustTell(t, d, "x", 2, true)
	mustOffer(t, d, "x")
	mustAnswer(t, "P10", d.Event("x", "a"), api.ErrBlock)
	mustAnswer(t, "P10", d.Event("x", "b"), api.ErrBlock)
	mustAnswer(t, "P13", d.End("x"), api.OK)
	mustMiss(t, d, "x")
	mustHave(t, d)
}

func TestStart(t *testing.T) {
	d := deskOf(t, "acts a; rule few(a, 3);")
	ids := strings.Split("hgfedcba", "")
	for i, id := range ids {
		mustMiss(t, d, id)
		mustAnswer(t, "P9", d.Start(id), api.OK)
		mustAnswer(t, "P9: twice", d.Start(id), api.ErrCase)
		mustTell(t, d, id, 0, true)
		if l := d.Cases(); len(l) != i+1 {
			t.Errorf("P9, P14: %d cases: %q", i+1, l)
		}
	}
	d.Event("c", "a")
	for _, id := range ids { // the case that is there, ahead of the desk that is full
		mustAnswer(t, "P9: full, and there", d.Start(id), api.ErrCase)
	}
	mustTell(t, d, "c", 1, true)
	for _, id := range []string{"", "i", "A", "aa", strings.Repeat("a", 1<<20)} {
		mustAnswer(t, "P9: full", d.Start(id), api.ErrFull)
		mustMiss(t, d, id)
	}
	mustHave(t, d, strings.Split("abcdefgh", "")...)
	mustAnswer(t, "P13", d.End("c"), api.OK)
	mustAnswer(t, "P9: room again", d.Start("i"), api.OK)
	mustAnswer(t, "P9: full again", d.Start("c"), api.ErrFull)
	mustHave(t, d, strings.Split("abdefghi", "")...)
}

func TestACaseBeginsAnew(t *testing.T) {
	d := deskOf(t, "acts a, b; rule few(a, 2);")
	for range 20 { // more often than a desk has room
		mustAnswer(t, "P9", d.Start("x"), api.OK)
		mustTell(t, d, "x", 0, true)
		mustAnswer(t, "P10", d.Event("x", "a"), api.OK)
		mustAnswer(t, "P10", d.Event("x", "a"), api.ErrBlock)
		mustAnswer(t, "P10", d.Event("x", "b"), api.OK)
		mustTell(t, d, "x", 2, true)
		mustAnswer(t, "P13", d.End("x"), api.OK)
	}
}

func TestEventErrors(t *testing.T) {
	d := deskOf(t, "acts a, abcdefgh, c; rule end | a & X end | a & !X true;") // a alone, or nothing
	mustMiss(t, d, "x")
	d.Start("x")
	wrong := []string{"", "b", "A", "a ", " a", "aa", "abcdefg", "abcdefghi", "acts", "end", "true", "X", "\x00", "\xff", "a\x00", strings.Repeat("a", 1<<20)}
	for range 2 { // at state 0, then where all is blocked
		s, _ := d.Tell("x")
		for _, act := range wrong {
			mustAnswer(t, "P10: no activity", d.Event("x", act), api.ErrName)
			mustAnswer(t, "P10: no case, and no activity", d.Event("y", act), api.ErrCase)
		}
		for _, act := range []string{"abcdefgh", "c"} {
			mustAnswer(t, "P10: blocked", d.Event("x", act), api.ErrBlock)
			mustAnswer(t, "P10: no case, and blocked", d.Event("y", act), api.ErrCase)
		}
		mustTell(t, d, "x", s.Events, true)
		d.Event("x", "a")
	}
	mustTell(t, d, "x", 1, true)
	mustAnswer(t, "P10: blocked", d.Event("x", "a"), api.ErrBlock)
	mustOffer(t, d, "x")
}

func TestEndWaitsForAccept(t *testing.T) {
	d := deskOf(t, "acts a, b; rule last(b);")
	d.Start("x")
	mustTell(t, d, "x", 0, false)
	mustAnswer(t, "P13", d.End("x"), api.ErrEnd)
	for i, act := range []string{"a", "b", "b", "a"} {
		d.Event("x", act)
		mustTell(t, d, "x", i+1, act == "b")
		if act == "a" {
			mustAnswer(t, "P13", d.End("x"), api.ErrEnd)
			mustTell(t, d, "x", i+1, false)
			mustHave(t, d, "x")
		}
	}
	d.Event("x", "b")
	mustAnswer(t, "P13", d.End("x"), api.OK)
	mustMiss(t, d, "x")
	mustAnswer(t, "P13: no case, ahead of no end", d.End("x"), api.ErrCase)
}

// TestOptionsAreInTheTablesOrder: not rising, and not as the rules name them.
func TestOptionsAreInTheTablesOrder(t *testing.T) {
	d := deskOf(t, "acts f, a, e, b, d, c; rule few(e, 1); rule notnext(a, c);")
	d.Start("x")
	mustOffer(t, d, "x", "f", "a", "b", "d", "c")
	d.Event("x", "a")
	mustOffer(t, d, "x", "f", "a", "b", "d")
	d.Event("x", "d")
	mustOffer(t, d, "x", "f", "a", "b", "d", "c")
}

func TestCasesRiseAsBytes(t *testing.T) {
	rising := []string{"", "\x00", "A", "Z", "a", "a\x00", "aB", "aa", "b", "é", "\xff", "\xff\x00"}
	r := rand.New(rand.NewSource(3))
	for range 200 {
		d := deskOf(t, "acts a;")
		var some []string
		for _, i := range r.Perm(len(rising))[:r.Intn(api.MaxCases+1)] {
			mustAnswer(t, "P9", d.Start(rising[i]), api.OK)
			some = append(some, rising[i])
		}
		want := slices.DeleteFunc(slices.Clone(rising), func(id string) bool { return !slices.Contains(some, id) })
		mustHave(t, d, want...)
		for len(want) > 0 {
			i := r.Intn(len(want))
			mustAnswer(t, "P13", d.End(want[i]), api.OK)
			want = slices.Delete(want, i, i+1)
			mustHave(t, d, want...)
		}
	}
}

func TestDeskOfLongIds(t *testing.T) {
	long := strings.Repeat("x", 1<<20)
	d := deskOf(t, "acts a, b; rule response(a, b);")
	for _, id := range []string{long, long + "x", long[1:]} {
		mustAnswer(t, "P9", d.Start(id), api.OK)
	}
	mustHave(t, d, long[1:], long, long+"x")
	mustAnswer(t, "P10", d.Event(long, "a"), api.OK)
	mustTell(t, d, long, 1, false)
	mustTell(t, d, long+"x", 0, true)
	mustAnswer(t, "P13", d.End(long+"x"), api.OK)
	mustHave(t, d, long[1:], long)
}

func TestACaseOfManyEvents(t *testing.T) {
	d := deskOf(t, "acts a, b; rule response(a, b);")
	d.Start("x")
	for range 50000 {
		d.Event("x", "a")
		d.Event("x", "b")
	}
	mustTell(t, d, "x", 100000, true)
}

// TestDeskShowsItsCallsAlone: what is embedded must not be seen from outside.
func TestDeskShowsItsCallsAlone(t *testing.T) {
	desk := reflect.TypeFor[Desk]()
	for _, f := range reflect.VisibleFields(desk) {
		if f.IsExported() {
			t.Errorf("a desk shows %s", f.Name)
		}
	}
	var calls []string
	for m := range reflect.PointerTo(desk).Methods() {
		calls = append(calls, m.Name)
	}
	if !slices.Equal(calls, []string{"Cases", "End", "Event", "Options", "Start", "Tell"}) {
		t.Errorf("a desk shows the calls %q", calls)
	}
}
