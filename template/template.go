// Package template has the rules that are called by a word, and the formulas that they stand for.
package template

import "sentry/formula"

// Param is what a template takes in one place.
type Param int

const (
	Activity Param = iota
	Number
)

// Template is a word that stands for a formula.
type Template struct {
	Word  string
	Takes []Param
	// Formula leaves aside those of a, b and n that the template does not take.
	Formula func(a, b *formula.Formula, n int) *formula.Formula
}

// Find tells the template of a word, if there is one.
func Find(word string) (Template, bool) {
	for _, t := range templates() {
		if t.Word == word {
			return t, true
		}
	}
	return Template{}, false
}

// templates has its table inside, since no function may stand at package level in a table.
func templates() []Template {
	one := []Param{Activity}
	two := []Param{Activity, Activity}
	times := []Param{Activity, Number}
	return []Template{
		{"init", one, func(a, _ *formula.Formula, _ int) *formula.Formula { return a }},
		{"last", one, last},
		{"some", times, func(a, _ *formula.Formula, n int) *formula.Formula { return some(a, n) }},
		{"few", times, func(a, _ *formula.Formula, n int) *formula.Formula { return not(some(a, n)) }},
		{"response", two, response},
		{"precede", two, precede},
		{"chain", two, chain},
		{"before", two, before},
		{"with", two, with},
		{"apart", two, apart},
		{"never", two, never},
		{"notnext", two, notNext},
	}
}

func last(a, _ *formula.Formula, _ int) *formula.Formula {
	return finally(and(a, not(next(formula.Word(formula.True)))))
}

// some is for n from 1 on.
func some(a *formula.Formula, n int) *formula.Formula {
	if n <= 1 {
		return finally(a)
	}
	return finally(and(a, next(some(a, n-1))))
}

func response(a, b *formula.Formula, _ int) *formula.Formula {
	return globally(implies(a, finally(b)))
}

func precede(a, b *formula.Formula, _ int) *formula.Formula {
	return or(until(not(b), a), globally(not(b)))
}

func chain(a, b *formula.Formula, _ int) *formula.Formula {
	return globally(implies(a, next(b)))
}

func before(a, b *formula.Formula, _ int) *formula.Formula {
	return and(not(b), globally(implies(next(b), a)))
}

func with(a, b *formula.Formula, _ int) *formula.Formula {
	return implies(finally(a), finally(b))
}

func apart(a, b *formula.Formula, _ int) *formula.Formula {
	return not(and(finally(a), finally(b)))
}

func never(a, b *formula.Formula, _ int) *formula.Formula {
	return globally(implies(a, weakNext(globally(not(b)))))
}

func notNext(a, b *formula.Formula, _ int) *formula.Formula {
	return globally(implies(a, not(next(b))))
}
