package sentry

import (
	"math/rand"
	"reflect"
	"slices"
	"strings"
	"testing"

	"sentry/api"
	"sentry/rules"
)

func isZero(g api.Table) bool { return g.Acts == nil && g.Flags == nil && g.Next == nil }

func mustCompile(t *testing.T, model string) api.Table {
	t.Helper()
	g, e := Compile(model)
	if e != api.OK {
		t.Fatalf("P5: Compile(%q): %d", model, e)
	}
	return g
}

// made writes a table of activities of one letter each.
func made(acts string, flags []int, next ...[]int) api.Table {
	return api.Table{Acts: strings.Split(acts, ""), Flags: flags, Next: next}
}

func TestCompileGivesTheTable(t *testing.T) {
	for _, c := range []struct {
		model string
		want  api.Table
	}{
		{"acts a, b; rule response(a, b);", made("ab", []int{3, 2}, []int{1, 0}, []int{1, 0})},
		{"acts a;", made("a", []int{3}, []int{0})},
		{"acts a; rule false;", made("a", []int{0}, []int{0})},
		{"acts a, b; rule chain(a, b); rule few(b, 2);", made("ab", []int{3, 2, 3, 0}, []int{1, 2}, []int{3, 2}, []int{3, 3}, []int{3, 3})},
		{"acts a, b; rule end;", made("ab", []int{3, 0}, []int{1, 1}, []int{1, 1})},
		{"acts a, b; rule b & X a;", made("ab", []int{2, 0, 2, 3}, []int{1, 2}, []int{1, 1}, []int{3, 1}, []int{3, 3})},
		{"acts b, a; rule b & X a;", made("ba", []int{2, 2, 0, 3}, []int{1, 2}, []int{2, 3}, []int{2, 2}, []int{3, 3})},
		{"acts c, a, b;", made("cab", []int{3}, []int{0, 0, 0})},
		{"acts abcdefgh, b; rule init(b);", api.Table{Acts: []string{"abcdefgh", "b"}, Flags: []int{2, 0, 3}, Next: [][]int{{1, 2}, {1, 1}, {2, 2}}}},
	} {
		if g, e := Compile(c.model); !reflect.DeepEqual(g, c.want) || e != api.OK {
			t.Errorf("P5: Compile(%q) = %v, %d, want %v", c.model, g, e, c.want)
		}
	}
}

// lead gives the state to which a trace leads.
func lead(g api.Table, trace []string) int {
	state := 0
	for _, event := range trace {
		state = g.Next[state][slices.Index(g.Acts, event)]
	}
	return state
}

// checkTable holds all that P5 says of a table but for which traces it knows.
func checkTable(t *testing.T, model string, g api.Table) {
	t.Helper()
	if !isNumberedAsMet(g) {
		t.Errorf("P5: %q: not numbered as met: %v", model, g)
	}
	if n := kinds(g); n != len(g.Flags) {
		t.Errorf("P5: %q: of %d states %d differ: %v", model, len(g.Flags), n, g)
	}
	for s, f := range g.Flags {
		if f&^3 != 0 || (f&api.Alive != 0) != reachesAccept(g, s) {
			t.Errorf("P5: %q: the flags of state %d: %v", model, s, g)
		}
	}
}

func isNumberedAsMet(g api.Table) bool {
	met := 1
	for s, row := range g.Next {
		if s >= met || len(row) != len(g.Acts) {
			return false
		}
		for _, next := range row {
			if next < 0 || next > met {
				return false
			}
			met = max(met, next+1)
		}
	}
	return met == len(g.Next) && met == len(g.Flags)
}

// kinds counts how many states are told apart by traces from there: of some length, then of one event more, until there are no more.
func kinds(g api.Table) int {
	kind := make([]int, len(g.Next))
	for s, f := range g.Flags {
		kind[s] = f & api.Accept
	}
	for count := 0; ; {
		seen := map[string]int{}
		finer := make([]int, len(kind))
		for s, row := range g.Next {
			key := []byte{byte(kind[s])}
			for _, next := range row {
				key = append(key, byte(kind[next]))
			}
			if _, ok := seen[string(key)]; !ok {
				seen[string(key)] = len(seen)
			}
			finer[s] = seen[string(key)]
		}
		if len(seen) == count {
			return count
		}
		kind, count = finer, len(seen)
	}
}

func reachesAccept(g api.Table, from int) bool {
	met := []int{from}
	for i := 0; i < len(met); i++ {
		if g.Flags[met[i]]&api.Accept != 0 {
			return true
		}
		for _, next := range g.Next[met[i]] {
			if !slices.Contains(met, next) {
				met = append(met, next)
			}
		}
	}
	return false
}

func checkTraces(t *testing.T, model string, g api.Table, all [][]string, keeps func(trace []string) bool) {
	t.Helper()
	for _, trace := range all {
		if want := keeps(trace); (g.Flags[lead(g, trace)]&api.Accept != 0) != want {
			t.Errorf("P5: %q: the trace %q keeps it: %v; the table %v", model, trace, want, g)
			return
		}
	}
}

func byHolds(model string) func(trace []string) bool {
	return func(trace []string) bool {
		ok, _ := Holds(model, trace)
		return ok
	}
}

// byKeeps reads the model but once: for many traces.
func byKeeps(model string) func(trace []string) bool {
	m, _ := rules.Read(model)
	return m.Keeps
}

func TestCompileOfAllSmallFormulas(t *testing.T) {
	leaves := []string{"a", "b", "true", "false", "end"}
	all := traces("ab", 6)
	for _, some := range trees(4, leaves, []string{"!", "X", "N", "F", "G"}, []string{"->", "|", "&", "U"}) {
		for _, f := range some {
			model := "acts b, a; rule " + f.full() + ";"
			g := mustCompile(t, model)
			checkTable(t, model, g)
			checkTraces(t, model, g, all, func(trace []string) bool { return f.holds(trace, 1) })
		}
	}
}

// someTree gives a formula of that many nodes, of many shapes.
func someTree(r *rand.Rand, nodes int, leaves []string) *tree {
	ones := []string{"!", "X", "N", "F", "G"}
	twos := []string{"->", "|", "&", "U"}
	if nodes == 1 {
		return &tree{sign: leaves[r.Intn(len(leaves))]}
	}
	if nodes == 2 || r.Intn(2) == 0 {
		return &tree{ones[r.Intn(len(ones))], someTree(r, nodes-1, leaves), nil}
	}
	left := 1 + r.Intn(nodes-2)
	return &tree{twos[r.Intn(len(twos))], someTree(r, left, leaves), someTree(r, nodes-1-left, leaves)}
}

func TestCompileOfGreatFormulas(t *testing.T) {
	r := rand.New(rand.NewSource(1))
	all := traces("abc", 5)
	for range 1500 {
		f, g := someTree(r, 10, []string{"a", "b", "c"}), someTree(r, 6, []string{"a", "b", "c", "end"})
		model := "acts c, a, b; rule " + f.full() + "; rule " + g.full() + ";"
		made, e := Compile(model)
		if e == api.ErrBig {
			continue // TestTablesOfManyStates
		}
		checkTable(t, model, made)
		checkTraces(t, model, made, all, func(trace []string) bool { return f.holds(trace, 1) && g.holds(trace, 1) })
	}
}

func TestCompileOfTemplates(t *testing.T) {
	all := traces("abc", 6)
	for _, set := range [][]string{
		{"init(a)"}, {"last(a)"}, {"some(a, 1)"}, {"some(b, 2)"}, {"some(c, 3)"}, {"few(a, 1)"}, {"few(b, 2)"}, {"few(c, 3)"},
		{"response(a, b)"}, {"precede(a, b)"}, {"chain(a, b)"}, {"before(a, b)"}, {"with(a, b)"}, {"apart(a, b)"}, {"never(a, b)"}, {"notnext(a, b)"},
		{"response(a, a)"}, {"precede(b, b)"}, {"chain(c, c)"}, {"before(a, a)"}, {"with(a, a)"}, {"apart(a, a)"}, {"never(a, a)"}, {"notnext(a, a)"},
		{"init(a)", "last(b)", "some(c, 2)"}, {"response(a, b)", "chain(b, c)", "few(a, 1)"}, {"init(a)", "init(b)"}, {"F a", "F b", "F c", "X X a"},
	} {
		model := "acts b, c, a; rule " + strings.Join(set, "; rule ") + ";"
		g := mustCompile(t, model)
		checkTable(t, model, g)
		checkTraces(t, model, g, all, byHolds(model))
	}
}

// TestTablesTellTracesAlone: models that the same traces keep have the same table, and no others.
func TestTablesTellTracesAlone(t *testing.T) {
	groups := [][]string{
		{"F a", "true U a", "!G !a", "some(a, 1)", "F F a"},
		{"G a", "!F !a", "G G a", "few(b, 1)"},
		{"end", "!X true & !a & !b", "G false", "!F true"},
		{"a -> b", "!a", "b | end", "b | !a"},
		{"X a", "X a & true", "!N !a"},
		{"true", "a | !a", "F a | G !a", "N true"},
		{"false", "a & b", "F end", "X false"},
	}
	var tables []api.Table
	for _, group := range groups {
		first := mustCompile(t, "acts a, b; rule "+group[0]+";")
		for _, r := range group {
			if g := mustCompile(t, "acts a, b; rule "+r+";"); !reflect.DeepEqual(g, first) {
				t.Errorf("P5: the tables of %s and %s: %v, %v", group[0], r, first, g)
			}
		}
		for i, g := range tables {
			if reflect.DeepEqual(g, first) {
				t.Errorf("P5: %s and %s have the same table", groups[i][0], group[0])
			}
		}
		tables = append(tables, first)
	}
}

func TestCompileOfModelsWithFaults(t *testing.T) {
	for model, want := range map[string]api.Errno{
		"":                         api.ErrForm,
		"acts a":                   api.ErrForm,
		"acts a; rule b;":          api.ErrName,
		"acts a; rule some(a);":    api.ErrCount,
		"acts abcdefghi;":          api.ErrLong,
		strings.Repeat(" ", 401):   api.ErrLong,
		strings.Repeat("a", 1<<20): api.ErrLong,
		"acts a, b; rule F (a & X X X X X X X X X X X X X X N false);": api.ErrCount,
	} {
		if g, e := Compile(model); !isZero(g) || e != want {
			t.Errorf("P5: Compile(%.80q) = %v, %d, want %d", model, g, e, want)
		}
	}
}

// differing counts traces that are told apart by what may come behind them: no table has fewer states. It looks at up to length events behind.
func differing(acts string, length int, keeps func(trace []string) bool) int {
	behind := traces(acts, length)
	seen := map[string]int{}
	found := [][]string{nil}
	for i := 0; i < len(found); i++ {
		row := make([]byte, len(behind))
		for k, b := range behind {
			if keeps(slices.Concat(found[i], b)) {
				row[k] = 1
			}
		}
		if _, ok := seen[string(row)]; ok {
			continue
		}
		seen[string(row)] = i
		for _, a := range strings.Split(acts, "") {
			found = append(found, slices.Concat(found[i], []string{a}))
		}
	}
	return len(seen)
}

func TestTablesOfManyStates(t *testing.T) {
	for _, c := range []struct {
		rules string
		count int
	}{
		{"rule F (a & X X X X X N false);", 64},
		{"rule F (a & X X X N N X X ! a); rule F N N a;", api.MaxStates},
		{"rule F (a & X X X X N X F X ! b); rule ! N a;", api.MaxStates + 1},
		{"rule F (a & X X X X X X N false);", 128},
	} {
		model := "acts a, b; " + c.rules
		g, e := Compile(model)
		if c.count > api.MaxStates {
			if n := differing("ab", 8, byKeeps(model)); n != c.count {
				t.Errorf("%q: at least %d states, want %d", model, n, c.count)
			}
			if !isZero(g) || e != api.ErrBig {
				t.Errorf("P5: %q: %d states, %d, want %d", model, len(g.Flags), e, api.ErrBig)
			}
			continue
		}
		if len(g.Flags) != c.count || e != api.OK {
			t.Errorf("P5: %q: %d states, %d, want %d", model, len(g.Flags), e, c.count)
			continue
		}
		checkTable(t, model, g)
		checkTraces(t, model, g, traces("ab", 10), byHolds(model))
	}
}

// TestCompileOfLongLooks: formulas that look far ahead have many places, but may have few states.
func TestCompileOfLongLooks(t *testing.T) {
	for rule, count := range map[string]int{
		"XXXXXXXXXXXXXXXa":       18,
		"NNNNNNNNNNNNNNNa":       18,
		"GXXXXXXXXXXXXXXa":       2,
		"F XXXXXXXXXXXXXXa":      16,
		"F(a & XXXXXXXXXXXXb)":   0,
		"G(a -> XXXXXXXXXXXXb)":  0,
		"XXXXXXXX F(a & XXX b)":  0,
		"(aUb)U(cUd)&(eUf)->aUc": 0,
	} {
		model := "acts a, b, c, d, e, f; rule " + rule + ";"
		g, e := Compile(model)
		if e != api.OK && e != api.ErrBig || count > 0 && len(g.Flags) != count {
			t.Errorf("P5: %s: %d states, %d, want %d", rule, len(g.Flags), e, count)
			continue
		}
		if e == api.OK {
			checkTable(t, model, g)
		}
	}
}

// scribble writes into one list of a table, and into all of its spare room.
func scribble(g api.Table, list int) {
	switch list {
	case 0:
		all := g.Acts[:cap(g.Acts)]
		for i := range all {
			all[i] = "scribble"
		}
	case 1:
		fill(g.Flags)
	case 2:
		all := g.Next[:cap(g.Next)]
		for i := range all {
			all[i] = nil
		}
	default:
		fill(g.Next[list-3])
	}
}

func fill(list []int) {
	all := list[:cap(list)]
	for i := range all {
		all[i] = -7
	}
}

// checkApart asks twice for a table, and writes into one list of one of them: all other lists must stay as they are.
func checkApart(t *testing.T, ask func() api.Table) {
	t.Helper()
	want := ask()
	for list := range 3 + len(want.Next) {
		g, other := ask(), ask()
		rows := slices.Clone(g.Next)
		scribble(g, list)
		for i, row := range rows {
			if list != 3+i && !slices.Equal(row, want.Next[i]) {
				t.Errorf("P2: list %d shares memory with row %d", list, i)
			}
		}
		if list != 0 && !slices.Equal(g.Acts, want.Acts) || list != 1 && !slices.Equal(g.Flags, want.Flags) || !reflect.DeepEqual(other, want) {
			t.Errorf("P2: list %d shares memory", list)
		}
	}
}

func TestCompileGivesNewMemory(t *testing.T) {
	for _, model := range []string{"acts a;", "acts a, b; rule last(a);", "acts a, b, c; rule some(a, 3); rule init(b);"} {
		checkApart(t, func() api.Table { return mustCompile(t, model) })
	}
}
