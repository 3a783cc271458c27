package sentry

import (
	"testing"

	"sentry/api"
)

// tree is a formula as the tests see it, apart from the program's own.
type tree struct {
	sign        string
	left, right *tree
}

// trees gives, by the number of nodes, all trees of up to size of them.
func trees(size int, leaves, ones, twos []string) [][]*tree {
	out := make([][]*tree, size+1)
	for _, s := range leaves {
		out[1] = append(out[1], &tree{sign: s})
	}
	for n := 2; n <= size; n++ {
		for _, s := range ones {
			for _, f := range out[n-1] {
				out[n] = append(out[n], &tree{s, f, nil})
			}
		}
		for _, s := range twos {
			for l := 1; l <= n-2; l++ {
				for _, f := range out[l] {
					for _, g := range out[n-1-l] {
						out[n] = append(out[n], &tree{s, f, g})
					}
				}
			}
		}
	}
	return out
}

func (f *tree) full() string {
	switch {
	case f.left == nil:
		return f.sign
	case f.right == nil:
		return f.sign + " " + f.left.full()
	}
	return "(" + f.left.full() + " " + f.sign + " " + f.right.full() + ")"
}

// levels: the lines of the grammar, from the loosest operator on.
var levels = map[string]int{"->": 1, "|": 2, "&": 3, "U": 4}

// sparse writes the formula with no bracket that the grammar does not need, where one of that level or a tighter one can stand.
func (f *tree) sparse(level int) string {
	if f.left == nil {
		return f.sign
	}
	if f.right == nil {
		return f.sign + f.left.sparse(5)
	}
	own := levels[f.sign]
	left, right := own, own+1
	if f.sign == "->" {
		left, right = own+1, own
	}
	if f.sign == "U" {
		left = own + 1
	}
	s := f.left.sparse(left) + f.sign + f.right.sparse(right)
	if own < level {
		return "(" + s + ")"
	}
	return s
}

// holds goes by the document's words, place by place from 1 to n + 1.
func (f *tree) holds(trace []string, i int) bool {
	n := len(trace)
	switch f.sign {
	case "true":
		return true
	case "false":
		return false
	case "end":
		return i == n+1
	case "!":
		return !f.left.holds(trace, i)
	case "&":
		return f.left.holds(trace, i) && f.right.holds(trace, i)
	case "|":
		return f.left.holds(trace, i) || f.right.holds(trace, i)
	case "->":
		return !f.left.holds(trace, i) || f.right.holds(trace, i)
	case "X":
		return i+1 <= n && f.left.holds(trace, i+1)
	case "N":
		return i+1 > n || f.left.holds(trace, i+1)
	case "F":
		return anyPlace(i, n, func(k int) bool { return f.left.holds(trace, k) })
	case "G":
		return !anyPlace(i, n, func(k int) bool { return !f.left.holds(trace, k) })
	case "U":
		return anyPlace(i, n, func(k int) bool {
			return f.right.holds(trace, k) && !anyPlace(i, k-1, func(j int) bool { return !f.left.holds(trace, j) })
		})
	}
	return i <= n && trace[i-1] == f.sign
}

func anyPlace(from, to int, is func(int) bool) bool {
	for k := from; k <= to; k++ {
		if is(k) {
			return true
		}
	}
	return false
}

func TestPrintOfAllSmallFormulas(t *testing.T) {
	for _, some := range trees(7, []string{"a"}, []string{"!"}, []string{"->", "|", "&", "U"}) {
		for _, f := range some {
			want := "acts a;\nrule " + f.full() + ";\n"
			for _, text := range []string{"acts a;rule " + f.sparse(0) + ";", want} {
				if s, at, e := Print(text); s != want || at != 0 || e != api.OK {
					t.Errorf("P3: Print(%q) = %q, %d, %d, want %q", text, s, at, e, want)
				}
			}
		}
	}
}

func TestHoldsOfAllSmallFormulas(t *testing.T) {
	leaves := []string{"a", "b", "true", "false", "end"}
	all := traces("ab", 4)
	for _, some := range trees(4, leaves, []string{"!", "X", "N", "F", "G"}, []string{"->", "|", "&", "U"}) {
		for _, f := range some {
			model := "acts b, a; rule " + f.full() + ";"
			for _, trace := range all {
				mustHold(t, model, trace, f.holds(trace, 1))
			}
		}
	}
}
