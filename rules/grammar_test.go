package rules

import (
	"slices"
	"strings"
	"testing"

	"sentry/api"
)

// production is a line of the document's grammar, with repetitions written as recursion. What no production has on its left is a token.
type production struct {
	left  string
	right []string
}

func grammar() []production {
	var out []production
	for _, line := range strings.Split(`MODEL acts LIST ;
MODEL acts LIST ; RULES
LIST NAME
LIST LIST , NAME
RULES rule RULE ;
RULES RULES rule RULE ;
RULE NAME ( NAME )
RULE NAME ( NAME , NAME )
RULE NAME ( NAME , 1 )
RULE FORMULA
FORMULA OR
FORMULA OR -> FORMULA
OR AND
OR OR | AND
AND UNTIL
AND AND & UNTIL
UNTIL UNARY
UNTIL UNARY U UNARY
UNARY ! UNARY
UNARY X UNARY
UNARY N UNARY
UNARY F UNARY
UNARY G UNARY
UNARY ( FORMULA )
UNARY true
UNARY false
UNARY end
UNARY NAME
NAME a
NAME init`, "\n") {
		words := strings.Fields(line)
		out = append(out, production{words[0], words[1:]})
	}
	return out
}

// item is a production of which some has been met, since the chart's set begun.
type item struct {
	line, dot, begun int
}

// chart is Earley's: it says, without any of the parser's shortcuts, which tokens can stand behind those before.
type chart struct {
	lines []production
	sets  [][]item
}

func newChart() *chart {
	c := &chart{lines: grammar()}
	c.sets = [][]item{c.close([]item{{0, 0, 0}, {1, 0, 0}})}
	return c
}

func (c *chart) wants(it item) string {
	if right := c.lines[it.line].right; it.dot < len(right) {
		return right[it.dot]
	}
	return ""
}

func (c *chart) close(set []item) []item {
	here := len(c.sets)
	add := func(it item) {
		if !slices.Contains(set, it) {
			set = append(set, it)
		}
	}
	for i := 0; i < len(set); i++ {
		it := set[i]
		want := c.wants(it)
		if want == "" {
			for _, up := range c.sets[it.begun] {
				if c.wants(up) == c.lines[it.line].left {
					add(item{up.line, up.dot + 1, up.begun})
				}
			}
			continue
		}
		for n, p := range c.lines {
			if p.left == want {
				add(item{n, 0, here})
			}
		}
	}
	return set
}

func (c *chart) canStand(token string) bool {
	for _, it := range c.sets[len(c.sets)-1] {
		if c.wants(it) == token {
			return true
		}
	}
	return false
}

func (c *chart) push(token string) {
	var set []item
	for _, it := range c.sets[len(c.sets)-1] {
		if c.wants(it) == token {
			set = append(set, item{it.line, it.dot + 1, it.begun})
		}
	}
	c.sets = append(c.sets, c.close(set))
}

func (c *chart) pop() { c.sets = c.sets[:len(c.sets)-1] }

func (c *chart) whole() bool {
	for _, it := range c.sets[len(c.sets)-1] {
		if it.begun == 0 && c.wants(it) == "" && c.lines[it.line].left == "MODEL" {
			return true
		}
	}
	return false
}

const everyToken = "acts rule true false end X N F G U a init 1 -> | & ! ( ) , ; ? - > A"

const fewTokens = "acts rule true U a 1 -> | & ! ( ) , ;"

func checkText(t *testing.T, text string, fault int) {
	t.Helper()
	_, f := Read(text)
	if got := f.Error == api.ErrForm; got != (fault >= 0) || got && f.Place != fault {
		t.Errorf("P3: %q: error %d at %d, want a token that fits nowhere at %d (-1: none)", text, f.Error, f.Place, fault)
	}
}

// walk goes through all beginnings of models that go on behind text with up to depth of the few tokens, and tries every token behind each.
func walk(t *testing.T, c *chart, text string, depth int) {
	if c.whole() {
		checkText(t, text, -1)
	} else {
		checkText(t, text, len(text))
	}
	for _, token := range strings.Fields(everyToken) {
		if !c.canStand(token) {
			checkText(t, text+" "+token, len(text)+1)
			checkText(t, text+" "+token+" ; (", len(text)+1)
		}
	}
	if depth == 0 {
		return
	}
	for _, token := range strings.Fields(fewTokens) {
		if c.canStand(token) {
			c.push(token)
			walk(t, c, text+" "+token, depth-1)
			c.pop()
		}
	}
}

func TestFirstTokenThatFitsNowhere(t *testing.T) {
	for _, c := range []struct {
		begin string
		depth int
	}{
		{"", 7},
		{"acts a ; rule", 6},
		{"acts a ; rule a (", 5},
		{"acts a ; rule init ( a , 1", 3},
		{"acts a ; rule ( X a U", 4},
		{"acts a ; rule N F G end -> false", 4},
	} {
		chart := newChart()
		for _, token := range strings.Fields(c.begin) {
			if !chart.canStand(token) {
				t.Fatalf("%q: %q can't stand there", c.begin, token)
			}
			chart.push(token)
		}
		walk(t, chart, c.begin, c.depth)
	}
}
