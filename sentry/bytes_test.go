package sentry

import (
	"math/rand"
	"reflect"
	"slices"
	"strings"
	"testing"

	"sentry/api"
)

// whole puts the sum behind bytes, as the document says it.
func whole(b string) string {
	n := 3
	for i := range len(b) {
		n = (n*251 + int(b[i]) + 1) % 65521
	}
	return b + string([]byte{byte(n / 256), byte(n % 256)})
}

func TestEncodeWrites(t *testing.T) {
	for _, c := range []struct {
		g    api.Table
		want string
	}{
		{made("ab", []int{3, 2}, []int{1, 0}, []int{1, 0}), "S\x01\x02\x01a\x01b\x02\x03\x01\x00\x02\x01\x00\xa8\x1d"},
		{made("a", []int{3}, []int{0}), "S\x01\x01\x01a\x01\x03\x00\x09\x0e"},
		{made("a", []int{0}, []int{0}), "S\x01\x01\x01a\x01\x00\x00\x06\x1d"},
		{api.Table{Acts: []string{"pay", "abcdefgh"}, Flags: []int{2, 3, 0}, Next: [][]int{{1, 2}, {2, 1}, {2, 2}}}, whole("S\x01\x02\x03pay\x08abcdefgh\x03\x02\x01\x02\x03\x02\x01\x00\x02\x02")},
		{ring("abcdef", 100), whole("S\x01\x06\x01a\x01b\x01c\x01d\x01e\x01f\x64" + ringBytes(6, 100))},
	} {
		if b, e := Encode(c.g); b != c.want || e != api.OK {
			t.Errorf("P6: Encode(%v) = %q, %d, want %q", c.g, b, e, c.want)
		}
		if g, e := Decode(c.want); !reflect.DeepEqual(g, c.g) || e != api.OK {
			t.Errorf("P7: Decode(%q) = %v, %d, want %v", c.want, g, e, c.g)
		}
	}
}

// ring gives a right table: each activity leads from each state to the next, and the last one alone has Accept.
func ring(acts string, count int) api.Table {
	g := api.Table{Acts: strings.Split(acts, "")}
	for s := range count {
		row := make([]int, len(acts))
		for i := range row {
			row[i] = (s + 1) % count
		}
		g.Flags = append(g.Flags, api.Alive)
		g.Next = append(g.Next, row)
	}
	g.Flags[count-1] += api.Accept
	return g
}

func ringBytes(acts, count int) string {
	var b []byte
	for s := range count {
		b = append(b, byte(2+s/(count-1)))
		b = append(b, strings.Repeat(string([]byte{byte((s + 1) % count)}), acts)...)
	}
	return string(b)
}

// rightTables are of many kinds, also such as no model has.
func rightTables(t *testing.T) []api.Table {
	t.Helper()
	out := []api.Table{
		ring("a", 1),
		ring("abcdef", 100),
		ring("fb", 99),
		made("b", []int{3, 3, 0}, []int{1}, []int{0}, []int{2}), // alike, and not met
		made("a", []int{0, 3}, []int{0}, []int{1}),              // never alive, though another state is
		made("a", []int{2, 2, 2, 3}, []int{1}, []int{2}, []int{3}, []int{3}),
		made("a", []int{3, 2, 2, 2}, []int{0}, []int{0}, []int{1}, []int{2}),
		made("ab", []int{3, 0}, []int{1, 1}, []int{1, 1}),
		{Acts: []string{"x", "acta", "ends", "rules", "tru", "abcdefgh"}, Flags: []int{0}, Next: [][]int{make([]int, 6)}},
		{Acts: []string{"aaaaaaaa", "aaaaaaa", "aaaaaa", "zzzzzzzz", "some", "init"}, Flags: []int{3}, Next: [][]int{make([]int, 6)}},
	}
	greatest := ring("abcdef", 100)
	for i, a := range greatest.Acts {
		greatest.Acts[i] = strings.Repeat(a, api.MaxName)
	}
	out = append(out, greatest)
	for _, rules := range []string{"", "rule false;", "rule response(a, b);", "rule some(a, 3);", "rule last(a); rule init(b);", "rule F (a & X X X X X N false);"} {
		out = append(out, mustCompile(t, "acts a, b, c; "+rules))
	}
	return out
}

func TestDecodeGivesBackWhatEncodeWrote(t *testing.T) {
	for _, g := range rightTables(t) {
		b, e := Encode(g)
		if e != api.OK {
			t.Errorf("P6: %v: %d", g, e)
		}
		if x, e := Decode(b); !reflect.DeepEqual(x, g) || e != api.OK {
			t.Errorf("P7: Decode(%q) = %v, %d, want %v", b, x, e, g)
		}
	}
}

func mustRefuse(t *testing.T, why string, g api.Table) {
	t.Helper()
	if b, e := Encode(g); b != "" || e != api.ErrTable {
		t.Errorf("P6: %s: Encode(%v) = %q, %d", why, g, b, e)
	}
}

func TestEncodeRefusesWrongActivities(t *testing.T) {
	for _, acts := range [][]string{
		nil, {}, {""}, {"a", ""}, {"a", "a"}, {"a", "b", "a"}, {"abcdefghi"}, {strings.Repeat("a", 300)}, {strings.Repeat("a", 257)},
		{"A"}, {"aB"}, {"a1"}, {"a b"}, {" a"}, {"a "}, {"\x00"}, {"`"}, {"{"}, {"\xe9"}, {"é"}, {"a\n"}, {"X"}, {"-"},
		{"acts"}, {"rule"}, {"true"}, {"false"}, {"end"}, {"a", "end"},
		strings.Split("abcdefg", ""), slices.Repeat([]string{"a"}, 5000), strings.Split(strings.Repeat("abcdef", 50), "")[:257],
	} {
		mustRefuse(t, "its activities", api.Table{Acts: acts, Flags: []int{3}, Next: [][]int{make([]int, len(acts))}})
	}
}

func TestEncodeRefusesWrongStates(t *testing.T) {
	huge := ring("ab", 257)
	for why, g := range map[string]api.Table{
		"nothing":                {},
		"no states":              made("a", nil),
		"empty lists":            made("a", []int{}, [][]int{}...),
		"no rows":                made("a", []int{3}),
		"no flags":               made("a", nil, []int{0}),
		"a row too few":          made("a", []int{3, 3}, []int{0}),
		"a row too many":         made("a", []int{3}, []int{0}, []int{0}),
		"no row":                 made("a", []int{3}, nil),
		"a short row":            made("ab", []int{3}, []int{0}),
		"a long row":             made("a", []int{3}, []int{0, 0}),
		"a short row behind":     made("ab", []int{3, 3}, []int{1, 1}, []int{0}),
		"a long row behind":      made("ab", []int{3, 3}, []int{1, 1}, []int{0, 0, 0}),
		"a state too high":       made("a", []int{3}, []int{1}),
		"a state behind all":     made("ab", []int{3, 3}, []int{0, 1}, []int{0, 2}),
		"a state below":          made("a", []int{3}, []int{-1}),
		"a state of 256":         made("a", []int{3}, []int{256}),
		"a state far off":        made("a", []int{3}, []int{1 << 40}),
		"a state far below":      made("a", []int{3}, []int{-1 << 62}),
		"101 states":             ring("a", 101),
		"257 states":             huge,
		"states of an empty row": {Flags: []int{3}, Next: [][]int{{}}},
	} {
		mustRefuse(t, why, g)
	}
}

func TestEncodeRefusesWrongFlags(t *testing.T) {
	for _, f := range []int{-1, -2, -3, -4, 4, 5, 6, 7, 8, 131, 256, 259, 1 << 40, -1 << 63, 3 - 1<<8} {
		mustRefuse(t, "its flags", made("a", []int{f}, []int{0}))
		mustRefuse(t, "its flags", made("a", []int{3, f}, []int{1}, []int{0}))
	}
	for _, g := range rightTables(t) {
		for s := range g.Flags {
			g.Flags[s] ^= api.Alive
			mustRefuse(t, "Alive", g)
			g.Flags[s] ^= api.Alive
		}
	}
}

// TestEncodeGoesByAlive tries all flags of all tables of one activity and three states.
func TestEncodeGoesByAlive(t *testing.T) {
	for n := range 64 * 27 {
		g := made("a", []int{n & 3, n >> 2 & 3, n >> 4 & 3}, []int{n / 64 % 3}, []int{n / 64 / 3 % 3}, []int{n / 64 / 9})
		right := true
		for s, f := range g.Flags {
			right = right && (f&api.Alive != 0) == reachesAccept(g, s)
		}
		b, e := Encode(g)
		if right != (e == api.OK) || right != (b != "") || !right && e != api.ErrTable {
			t.Errorf("P6: Encode(%v) = %q, %d", g, b, e)
		}
	}
}

func mustNotRead(t *testing.T, why, b string) {
	t.Helper()
	if g, e := Decode(b); !isZero(g) || e != api.ErrTable {
		t.Errorf("P7: %s: Decode(%.80q) = %v, %d", why, b, g, e)
	}
}

// TestDecodeRefusesHurtBytes takes bytes of which one is another, missing or too many.
func TestDecodeRefusesHurtBytes(t *testing.T) {
	for _, g := range rightTables(t) {
		b, _ := Encode(g)
		for i := range len(b) + 1 {
			mustNotRead(t, "cut off", b[:max(i-1, 0)])
			if i < len(b) {
				mustNotRead(t, "one missing", b[:i]+b[i+1:])
			}
			step := 1 + len(b)/20 // so that long ones don't take long
			for c := 0; c < 256; c += step {
				one := string([]byte{byte(c)})
				mustNotRead(t, "one too many", b[:i]+one+b[i:])
				if i < len(b) && b[i] != byte(c) {
					mustNotRead(t, "one is another", b[:i]+one+b[i+1:])
				}
			}
		}
		mustNotRead(t, "twice", b+b)
	}
}

// TestDecodeRefusesWrongTables: of all these the sum is right.
func TestDecodeRefusesWrongTables(t *testing.T) {
	for why, b := range map[string]string{
		"nothing":                "",
		"the first byte":         "s\x01\x01\x01a\x01\x03\x00",
		"the second byte":        "S\x02\x01\x01a\x01\x03\x00",
		"the second byte, zero":  "S\x00\x01\x01a\x01\x03\x00",
		"no activities":          "S\x01\x00\x01\x03",
		"seven activities":       "S\x01\x07\x01a\x01b\x01c\x01d\x01e\x01f\x01g\x01\x03\x00\x00\x00\x00\x00\x00\x00",
		"activities alike":       "S\x01\x02\x01a\x01a\x01\x03\x00\x00",
		"a name of nothing":      "S\x01\x01\x00\x01\x03\x00",
		"a name of nine letters": "S\x01\x01\x09abcdefghi\x01\x03\x00",
		"a name of other bytes":  "S\x01\x01\x01A\x01\x03\x00",
		"a word":                 "S\x01\x01\x04rule\x01\x03\x00",
		"no states":              "S\x01\x01\x01a\x00",
		"101 states":             "S\x01\x01\x01a\x65" + ringBytes(1, 101),
		"255 states":             "S\x01\x01\x01a\xff" + ringBytes(1, 255),
		"a state too high":       "S\x01\x01\x01a\x01\x03\x01",
		"flags of 4":             "S\x01\x01\x01a\x01\x04\x00",
		"flags of 7":             "S\x01\x01\x01a\x01\x07\x00",
		"Alive too much":         "S\x01\x01\x01a\x01\x02\x00",
		"Alive too little":       "S\x01\x01\x01a\x01\x01\x00",
		"a byte too many":        "S\x01\x01\x01a\x01\x03\x00\x00",
		"a state too many":       "S\x01\x01\x01a\x01\x03\x00\x03\x00",
		"a byte too few":         "S\x01\x01\x01a\x01\x03",
		"a state too few":        "S\x01\x01\x01a\x02\x03\x00",
		"activities too few":     "S\x01\x02\x01a",
		"many activities":        "S\x01\xff\xff",
		"many empty names":       "S\x01\xff" + strings.Repeat("\x00", 255) + "\xff",
	} {
		mustNotRead(t, why, whole(b))
	}
	mustNotRead(t, "zeros left off", "S\x01\x01\x01a\x01\x00\x00\x06")
	mustNotRead(t, "zeros left off", whole("S\x01\x01\x01a\x02\x03\x00\x00"))
}

func TestDecodeRefusesLongBytes(t *testing.T) {
	b, _ := Encode(ring("ab", 3))
	for _, n := range []int{api.MaxTable - len(b), api.MaxTable - len(b) + 1, api.MaxTable, 1 << 22} {
		mustNotRead(t, "long", b+strings.Repeat("\x00", n))
		mustNotRead(t, "long", strings.Repeat("S", n))
		mustNotRead(t, "long", whole("S\x01"+strings.Repeat("\xff", n)))
	}
}

// TestDecodeOfAnyBytes writes into bytes and puts the right sum behind them: what is read must be what Encode writes so.
func TestDecodeOfAnyBytes(t *testing.T) {
	r := rand.New(rand.NewSource(2))
	read := 0
	for _, g := range rightTables(t) {
		b, _ := Encode(g)
		for range 3000 {
			hurt := []byte(b[:len(b)-2])
			for range 1 + r.Intn(2) {
				hurt[r.Intn(len(hurt))] = byte(r.Intn(256) >> r.Intn(8))
			}
			s := whole(string(hurt))
			x, e := Decode(s)
			if e == api.ErrTable && isZero(x) {
				continue
			}
			read++
			if again, f := Encode(x); e != api.OK || again != s || f != api.OK {
				t.Errorf("P7: Decode(%q) = %v, %d", s, x, e)
			}
		}
	}
	if read < 100 {
		t.Errorf("only %d were read", read)
	}
}

func TestDecodeGivesNewMemory(t *testing.T) {
	for _, g := range []api.Table{ring("a", 1), ring("ab", 5), ring("abcdef", 9)} {
		b, _ := Encode(g)
		checkApart(t, func() api.Table { x, _ := Decode(b); return x })
	}
}

// roomy gives a table like g whose lists have spare room, filled with what would be wrong in it.
func roomy(g api.Table) api.Table {
	out := api.Table{
		Acts:  append(slices.Clone(g.Acts), "Spare", "Room")[:len(g.Acts)],
		Flags: append(slices.Clone(g.Flags), 77, 78)[:len(g.Flags)],
	}
	for _, row := range g.Next {
		out.Next = append(out.Next, append(slices.Clone(row), -5, -6)[:len(row)])
	}
	out.Next = append(out.Next, []int{-9})[:len(g.Next)]
	return out
}

// opened shows a table's lists with their spare room (as much as roomy gives).
func opened(g api.Table) api.Table {
	out := api.Table{Acts: slices.Clone(g.Acts[:len(g.Acts)+2]), Flags: slices.Clone(g.Flags[:len(g.Flags)+2])}
	for _, row := range g.Next {
		out.Next = append(out.Next, slices.Clone(row[:len(row)+2]))
	}
	out.Next = append(out.Next, slices.Clone(g.Next[:len(g.Next)+1][len(g.Next)]))
	return out
}

// TestEncodeLeavesTheTableAlone looks at the spare room of its lists, too (P2).
func TestEncodeLeavesTheTableAlone(t *testing.T) {
	for _, g := range append(rightTables(t), made("a", []int{2}, []int{0}), made("aa", []int{3}, []int{0, 0})) {
		want, e := Encode(g)
		room := roomy(g)
		before := opened(room)
		if b, f := Encode(room); b != want || f != e {
			t.Errorf("P2: Encode of a table with spare room: %q, %d, want %q, %d", b, f, want, e)
		}
		if !reflect.DeepEqual(opened(room), before) {
			t.Errorf("P2: Encode wrote into a table: %v, before %v", opened(room), before)
		}
	}
}

// TestEncodeOfSharedRows: rows that are one list are as good as others.
func TestEncodeOfSharedRows(t *testing.T) {
	row := []int{1, 0}
	g := made("ab", []int{3, 2}, row, row)
	if b, e := Encode(g); b != "S\x01\x02\x01a\x01b\x02\x03\x01\x00\x02\x01\x00\xa8\x1d" || e != api.OK {
		t.Errorf("P6: %q, %d", b, e)
	}
}
