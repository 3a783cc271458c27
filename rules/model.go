// Package rules reads and writes models: activities, and rules on their order.
package rules

import (
	"slices"
	"strings"

	"sentry/api"
	"sentry/formula"
	"sentry/template"
)

// Model is a model without a fault.
type Model struct {
	Acts  []string
	Rules []Rule
}

// Rule has a word and arguments, if it calls a template; its formula is then the one that the template stands for.
type Rule struct {
	Word    string
	Args    []string
	Formula *formula.Formula
}

// Read gives the model of a text, or the fault that counts.
func Read(text string) (Model, Fault) {
	if len(text) > api.MaxText {
		return Model{}, Fault{0, api.ErrLong}
	}
	s, place, ok := parse(text)
	if !ok {
		return Model{}, Fault{place, api.ErrForm}
	}
	if f := check(s); f.Error != api.OK {
		return Model{}, f
	}
	m := build(s)
	if m.nodes() > api.MaxNodes {
		return Model{}, Fault{len(text), api.ErrCount}
	}
	return m, Fault{}
}

// build is for a source in which check found no fault.
func build(s source) Model {
	m := Model{Acts: texts(s.acts)}
	for _, r := range s.rules {
		if r.call != nil {
			m.Rules = append(m.Rules, buildCall(r.call))
		} else {
			m.Rules = append(m.Rules, Rule{Formula: r.formula})
		}
	}
	return m
}

func buildCall(c *callSource) Rule {
	var acts [2]*formula.Formula
	times := 0
	for i, arg := range c.args {
		if arg.kind == digit {
			times = number(arg)
		} else {
			acts[i] = formula.Activity(arg.text)
		}
	}
	t, _ := template.Find(c.word.text)
	return Rule{c.word.text, texts(c.args), t.Formula(acts[0], acts[1], times)}
}

// texts gives copies: a piece of the model's text would keep the whole of it in memory.
func texts(tokens []token) []string {
	var out []string
	for _, t := range tokens {
		out = append(out, strings.Clone(t.text))
	}
	return out
}

func (m Model) nodes() int {
	n := 0
	for _, r := range m.Rules {
		n += r.Formula.Nodes()
	}
	return n
}

// Text writes the model in the one way that is the same for all its spellings.
func (m Model) Text() string {
	var b strings.Builder
	b.WriteString("acts " + strings.Join(m.Acts, ", ") + ";\n")
	for _, r := range m.Rules {
		b.WriteString("rule " + r.text() + ";\n")
	}
	return b.String()
}

func (r Rule) text() string {
	if r.Word == "" {
		return r.Formula.Text()
	}
	return r.Word + "(" + strings.Join(r.Args, ", ") + ")"
}

// Knows tells whether the trace is one of the model's activities alone.
func (m Model) Knows(trace []string) bool {
	for _, event := range trace {
		if !slices.Contains(m.Acts, event) {
			return false
		}
	}
	return true
}

// Keeps tells whether all rules hold of the trace.
func (m Model) Keeps(trace []string) bool { return m.Walk().Holds(trace) }

// Walk goes by the formulas of all rules. (The limit of a model's nodes is far below that of a walk.)
func (m Model) Walk() formula.Walk {
	var all []*formula.Formula
	for _, r := range m.Rules {
		all = append(all, r.Formula)
	}
	return formula.NewWalk(all)
}
