package sentry

import (
	"strings"
	"testing"

	"sentry/api"
)

func TestPrintWrites(t *testing.T) {
	for _, c := range []struct{ model, want string }{
		{"acts a,b;rule response(a,b);rule G(a->N!a)|end;", "acts a, b;\nrule response(a, b);\nrule (G (a -> N ! a) | end);\n"},
		{"acts a; rule X(a);", "acts a;\nrule X a;\n"},
		{"acts a;", "acts a;\n"},
		{"\n\tacts \n a\t, b ; \n", "acts a, b;\n"},
		{"acts f,e,d,c,b,a;", "acts f, e, d, c, b, a;\n"},
		{"acts a;rule some(a,2);rule few ( a , 1 ) ;", "acts a;\nrule some(a, 2);\nrule few(a, 1);\n"},
		{"acts a,b;rule init(a);rule last(b);", "acts a, b;\nrule init(a);\nrule last(b);\n"},
		{"acts some,few;rule response(some,few);rule some;", "acts some, few;\nrule response(some, few);\nrule some;\n"},
		{"acts a;rule true;rule false;rule end;rule a;", "acts a;\nrule true;\nrule false;\nrule end;\nrule a;\n"},
		{"acts a;rule!XNFGa;", "acts a;\nrule ! X N F G a;\n"},
		{"acts a;rule(((a)));", "acts a;\nrule a;\n"},
		{"acts actsa,xrule;rule actsa U xrule;", "acts actsa, xrule;\nrule (actsa U xrule);\n"},
		{"acts a,b;rule aUb;", "acts a, b;\nrule (a U b);\n"},
	} {
		if s, at, e := Print(c.model); s != c.want || at != 0 || e != api.OK {
			t.Errorf("P3: Print(%q) = %q, %d, %d, want %q", c.model, s, at, e, c.want)
		}
	}
}

func TestPrintWritesEachTwoPlaceTemplate(t *testing.T) {
	for _, word := range []string{"response", "precede", "chain", "before", "with", "apart", "never", "notnext"} {
		want := "acts a, b;\nrule " + word + "(b, a);\n"
		if s, at, e := Print("acts a,b;rule " + word + "(b,a);"); s != want || at != 0 || e != api.OK {
			t.Errorf("P3: %s: %q, %d, %d", word, s, at, e)
		}
	}
}

// wrong says what Print must answer of a model with a fault.
type wrong struct {
	model string
	at    int
	e     api.Errno
}

func checkWrong(t *testing.T, cases []wrong) {
	t.Helper()
	for _, c := range cases {
		if s, at, e := Print(c.model); s != "" || at != c.at || e != c.e {
			t.Errorf("P3: Print(%.80q) = %q, %d, %d, want %d, %d", c.model, s, at, e, c.at, c.e)
		}
		if ok, e := Holds(c.model, []string{"none"}); ok || e != c.e {
			t.Errorf("P4: Holds(%.80q) = %v, %d, want %d", c.model, ok, e, c.e)
		}
		if g, e := Compile(c.model); !isZero(g) || e != c.e {
			t.Errorf("P5: Compile(%.80q) = %v, %d, want %d", c.model, g, e, c.e)
		}
	}
}

func checkRight(t *testing.T, models []string) {
	t.Helper()
	for _, m := range models {
		s, at, e := Print(m)
		if s == "" || at != 0 || e != api.OK {
			t.Errorf("P3: Print(%.80q) = %q, %d, %d, want no fault", m, s, at, e)
		}
	}
}

func TestFaultsOfForm(t *testing.T) {
	checkWrong(t, []wrong{
		{"", 0, api.ErrForm},
		{"acts a", 6, api.ErrForm},
		{"acts a  ", 8, api.ErrForm},
		{"acts a; rule a b;", 15, api.ErrForm},
		{"acts a; rule a(a", 16, api.ErrForm},
		{"acts a; rule a(a, a, a);", 19, api.ErrForm},
		{"acts a; rule a(!a);", 15, api.ErrForm},
		{"acts a; rule init(a) & a;", 21, api.ErrForm},
		{"acts a; rule a & a(a);", 18, api.ErrForm},
		{"acts a; rule (a(a));", 15, api.ErrForm},
		{"acts a; rule some(a, 10);", 22, api.ErrForm},
		{"acts a; rule 1;", 13, api.ErrForm},
		{"acts X;", 5, api.ErrForm},
		{"acts a; ruletrue;", 8, api.ErrForm},
		{"acts a;\r", 7, api.ErrForm},
		{"acts a; rule a-;", 14, api.ErrForm},
		{"acts a; rule a U a U a;", 19, api.ErrForm},
	})
	checkRight(t, []string{"acts a; rule (a U a) U a;", "acts a; rule a U (a U a);", "acts a;rule a;"})
}

func TestFaultsOfLength(t *testing.T) {
	checkWrong(t, []wrong{
		{"acts a;" + strings.Repeat(" ", api.MaxText-6), 0, api.ErrLong},
		{strings.Repeat("acts a; rule b; ", 100), 0, api.ErrLong},
		{"acts abcdefghi;", 5, api.ErrLong},
		{"acts a, abcdefghi, a;", 8, api.ErrLong},
		{"acts a; rule X abcdefghi;", 15, api.ErrLong},
		{"acts a; rule responses(a, a);", 13, api.ErrLong},
		{"acts a; rule init(abcdefghi);", 18, api.ErrLong},
		{"acts a; rule init(a, abcdefghi);", 21, api.ErrLong},
	})
	checkRight(t, []string{
		"acts a;" + strings.Repeat(" ", api.MaxText-7),
		"acts abcdefgh; rule abcdefgh; rule init(abcdefgh); rule response(abcdefgh, abcdefgh);",
	})
}

func TestFaultsOfNames(t *testing.T) {
	checkWrong(t, []wrong{
		{"acts a; rule b;", 13, api.ErrName},
		{"acts a, a;", 8, api.ErrName},
		{"acts a, b, b, a;", 11, api.ErrName},
		{"acts a; rule a & (a U init);", 22, api.ErrName},
		{"acts a; rule nope(a);", 13, api.ErrName},
		{"acts a; rule a(a);", 13, api.ErrName},
		{"acts a; rule init(init);", 18, api.ErrName},
		{"acts a; rule chain(b, c);", 19, api.ErrName},
		{"acts a; rule chain(a, c);", 22, api.ErrName},
		{"acts a; rule some(b, 1);", 18, api.ErrName},
	})
}

func TestFaultsOfCount(t *testing.T) {
	checkWrong(t, []wrong{
		{"acts a, b, c, d, e, f, g;", 23, api.ErrCount},
		{"acts a; rule a; rule a; rule a; rule a; rule a;", 40, api.ErrCount},
		{"acts a; rule some(a);", 19, api.ErrCount},
		{"acts a; rule few(a);", 18, api.ErrCount},
		{"acts a; rule never(a );", 21, api.ErrCount},
		{"acts a; rule init(a, a);", 21, api.ErrCount},
		{"acts a; rule last(a, 1);", 21, api.ErrCount},
		{"acts a; rule some(a, a);", 21, api.ErrCount},
		{"acts a; rule with(a, 1);", 21, api.ErrCount},
		{"acts a; rule few(a, 0);", 20, api.ErrCount},
		{"acts a; rule few(a, 4);", 20, api.ErrCount},
		{"acts a; rule some(a, 9);", 21, api.ErrCount},
	})
	checkRight(t, []string{
		"acts a, b, c, d, e, f;",
		"acts a; rule a; rule a; rule a; rule a;",
		"acts a; rule some(a, 1); rule few(a, 3);",
	})
}

func TestWhichOfSeveralFaultsCounts(t *testing.T) {
	checkWrong(t, []wrong{
		// a fault of form ahead of all others, wherever they are
		{"acts a, a; rule abcdefghi; rule", 31, api.ErrForm},
		{"acts a, b, c, d, e, f, g, a; rule nope(a) nope;", 42, api.ErrForm},
		// the least place, whatever the kind
		{"acts a; rule b; rule abcdefghi; rule some(a);", 13, api.ErrName},
		{"acts a; rule some(a); rule b; rule abcdefghi;", 19, api.ErrCount},
		{"acts a, abcdefghi; rule b; rule some(a);", 8, api.ErrLong},
		{"acts a, b, c, d, e, f, g, abcdefghi, a;", 23, api.ErrCount},
		{"acts a; rule nope(b, 9); rule b;", 13, api.ErrName},
		{"acts a; rule chain(b);", 19, api.ErrName},
		{"acts a; rule init(b, 1);", 18, api.ErrName},
		{"acts a; rule a; rule a; rule a; rule a; rule b;", 40, api.ErrCount},
		{"acts a; rule a; rule a; rule a; rule b; rule a;", 37, api.ErrName},
		// of one place: length, name, count
		{"acts a, b, c, d, e, f, abcdefghi;", 23, api.ErrLong},
		{"acts abcdefghi, b, c, d, e, f, abcdefghi;", 5, api.ErrLong},
		{"acts a, b, c, d, e, f, a;", 23, api.ErrName},
		{"acts a; rule init(a, b);", 21, api.ErrName},
		{"acts a; rule some(a, b);", 21, api.ErrName},
		{"acts a; rule some(a, abcdefghi);", 21, api.ErrLong},
		// too many nodes behind all others
		{"acts a; rule !!!!!!!!!!!!!!!!!b;", 30, api.ErrName},
		{"acts a; rule !!!!!!!!!!!!!!!!!a; rule some(a);", 44, api.ErrCount},
	})
}

// TestNodes fills up each formula to MaxNodes, and once above.
func TestNodes(t *testing.T) {
	for rule, nodes := range map[string]int{
		"init(a)": 1, "last(a)": 6, "some(a, 1)": 2, "some(a, 2)": 6, "some(a, 3)": 10, "few(a, 1)": 3, "few(a, 2)": 7, "few(a, 3)": 11,
		"response(a, b)": 5, "precede(a, b)": 8, "chain(a, b)": 5, "before(a, b)": 8, "with(a, b)": 5, "apart(a, b)": 6, "never(a, b)": 7, "notnext(a, b)": 6,
		"a": 1, "((true))": 1, "false": 1, "end": 1, "!a": 2, "X a": 2, "N a": 2, "F a": 2, "G a": 2, "a U b": 3, "a & b": 3, "a | b": 3, "(a -> b)": 3,
	} {
		free := api.MaxNodes - nodes
		model := func(more int) string {
			return "acts a, b; rule " + rule + "; rule " + strings.Repeat("!", more-1) + "a; "
		}
		checkRight(t, []string{model(free)})
		above := model(free + 1)
		checkWrong(t, []wrong{{above, len(above), api.ErrCount}})
	}
}
