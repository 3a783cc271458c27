package sentry

import (
	"slices"
	"testing"
	"unsafe"

	"sentry/api"
)

// loose gives a text, and a way to write over its bytes: so a text that was kept is found out.
func loose(s string) (string, func()) {
	b := []byte(s)
	return unsafe.String(unsafe.SliceData(b), len(b)), func() {
		for i := range b {
			b[i] = '#'
		}
	}
}

func TestOpenKeepsNothing(t *testing.T) {
	g := mustCompile(t, "acts pay, ship; rule precede(pay, ship);")
	b, wipe := loose(tableBytes(t, g))
	d := mustOpen(t, b)
	wipe()
	p := plain{g, map[string][]string{}}
	mustAnswer(t, "P9", d.Start("x"), p.start("x"))
	for _, act := range []string{"ship", "pay", "ship", "##", "###", "####"} {
		checkAlike(t, d, p, []string{"x"})
		mustAnswer(t, "P2, P10", d.Event("x", act), p.event("x", act))
	}
}

// TestDeskKeepsNoTextsOfItsCalls writes over each text as soon as the call is done (P2).
func TestDeskKeepsNoTextsOfItsCalls(t *testing.T) {
	g := mustCompile(t, "acts pay, ship; rule precede(pay, ship); rule few(ship, 2);")
	d, p := mustOpen(t, tableBytes(t, g)), plain{g, map[string][]string{}}
	ids := []string{"one", "two", "three", "###", "#####"}
	for _, call := range []func(id string) api.Errno{
		d.Start, d.Start, d.End, d.Start,
		func(id string) api.Errno { _, e := d.Tell(id); return e },
		func(id string) api.Errno { _, e := d.Options(id); return e },
		d.Start,
	} {
		for _, id := range ids[:3] {
			text, wipe := loose(id)
			call(text)
			wipe()
		}
	}
	for _, id := range ids[:3] {
		p.start(id)
	}
	checkAlike(t, d, p, ids)
	for _, act := range []string{"ship", "pay", "none", "ship", "ship"} {
		for _, id := range ids[:2] {
			text, wipe := loose(id)
			word, wipeWord := loose(act)
			mustAnswer(t, "P2, P10", d.Event(text, word), p.event(id, act))
			wipe()
			wipeWord()
			checkAlike(t, d, p, ids)
		}
	}
}

// scrawl writes into a list and all of its spare room.
func scrawl(list []string) {
	all := list[:cap(list)]
	for i := range all {
		all[i] = "scrawl"
	}
}

func TestDeskGivesNewLists(t *testing.T) {
	d := deskOf(t, "acts a, b, c; rule notnext(a, b);")
	for _, id := range []string{"z", "x", "y"} {
		d.Start(id)
	}
	d.Event("x", "a")
	cases := d.Cases()
	options, _ := d.Options("x")
	others, _ := d.Options("y")
	for range 2 {
		for _, id := range []string{"x", "y", "z"} {
			l, _ := d.Options(id)
			scrawl(l)
		}
		scrawl(d.Cases())
	}
	if !slices.Equal(cases, []string{"x", "y", "z"}) || !slices.Equal(options, []string{"a", "c"}) || !slices.Equal(others, []string{"a", "b", "c"}) {
		t.Errorf("P2: lists that came out share memory: %q, %q, %q", cases, options, others)
	}
	mustHave(t, d, "x", "y", "z")
	mustOffer(t, d, "x", "a", "c")
	mustOffer(t, d, "y", "a", "b", "c")
	mustAnswer(t, "P10", d.Event("x", "b"), api.ErrBlock)
	mustAnswer(t, "P10", d.Event("x", "c"), api.OK)
}

// TestDeskGivesNewTexts: the texts in the lists that come out are no pieces of what the desk has.
func TestDeskGivesNewTexts(t *testing.T) {
	d := deskOf(t, "acts pay, ship;")
	d.Start("one")
	d.Start("two")
	for what, ask := range map[string]func() []string{
		"P14": d.Cases,
		"P11": func() []string { l, _ := d.Options("one"); return l },
	} {
		first, second := ask(), ask()
		for i := range first {
			if unsafe.StringData(first[i]) == unsafe.StringData(second[i]) {
				t.Errorf("P2, %s: %q and %q are the same memory", what, first, second)
			}
		}
	}
}

func TestDesksOfOneTableAreApart(t *testing.T) {
	b := tableBytes(t, mustCompile(t, "acts a; rule few(a, 2);"))
	one, other := mustOpen(t, b), mustOpen(t, b)
	one.Start("x")
	mustHave(t, other)
	mustMiss(t, other, "x")
	other.Start("x")
	one.Event("x", "a")
	mustTell(t, other, "x", 0, true)
	mustOffer(t, other, "x", "a")
	mustAnswer(t, "P13", other.End("x"), api.OK)
	mustTell(t, one, "x", 1, true)
	for _, id := range []string{"a", "b", "c", "d", "e", "f", "g"} {
		mustAnswer(t, "P9", one.Start(id), api.OK)
	}
	mustAnswer(t, "P9", one.Start("h"), api.ErrFull)
	mustAnswer(t, "P9", other.Start("h"), api.OK)
}
