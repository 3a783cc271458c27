package rules

import "sentry/formula"

// source is a model that follows the grammar, with the places at which faults are told.
type source struct {
	acts  []token
	rules []ruleSource
}

type ruleSource struct {
	word    token // "rule"
	formula *formula.Formula
	names   []token // of the formula
	call    *callSource
}

// callSource is a rule that calls a template.
type callSource struct {
	word    token
	args    []token
	closing token
}

// parser goes down the grammar. Once a token did not fit, it stands at the text's end for good: all its functions come to their end there, and none of them has to ask.
type parser struct {
	tokens []token // those still ahead, the text's end always among them
	failed bool
	place  int // of the token that did not fit
	names  []token
}

// parse tells the place of the first token that can stand nowhere, and false, if there is one.
func parse(text string) (source, int, bool) {
	p := &parser{tokens: scan(text)}
	s := p.model()
	return s, p.place, !p.failed
}

func (p *parser) next() kind { return p.tokens[0].kind }

// take gives the next token, which must be of that kind.
func (p *parser) take(k kind) token {
	t := p.tokens[0]
	if t.kind != k {
		p.fail()
		return t
	}
	if k != textEnd {
		p.tokens = p.tokens[1:]
	}
	return t
}

// skip tells whether the next token was of that kind, and is behind now.
func (p *parser) skip(k kind) bool {
	if p.next() != k {
		return false
	}
	p.take(k)
	return true
}

func (p *parser) fail() {
	if !p.failed {
		p.failed = true
		p.place = p.tokens[0].place
	}
	p.tokens = p.tokens[len(p.tokens)-1:]
}

func (p *parser) model() source {
	var s source
	p.take(actsWord)
	s.acts = append(s.acts, p.take(name))
	for p.skip(comma) {
		s.acts = append(s.acts, p.take(name))
	}
	p.take(semicolon)
	for p.next() == ruleWord {
		s.rules = append(s.rules, p.rule())
	}
	p.take(textEnd)
	return s
}

func (p *parser) rule() ruleSource {
	r := ruleSource{word: p.take(ruleWord)}
	if p.next() == name && p.tokens[1].kind == opening {
		r.call = p.call()
	} else {
		p.names = nil
		r.formula = p.formula()
		r.names = p.names
	}
	p.take(semicolon)
	return r
}

func (p *parser) call() *callSource {
	c := &callSource{word: p.take(name)}
	p.take(opening)
	c.args = append(c.args, p.take(name))
	if p.skip(comma) {
		c.args = append(c.args, p.nameOrDigit())
	}
	c.closing = p.take(closing)
	return c
}

func (p *parser) nameOrDigit() token {
	if p.next() == digit {
		return p.take(digit)
	}
	return p.take(name)
}

func (p *parser) formula() *formula.Formula {
	left := p.or()
	if p.skip(arrow) {
		return formula.Two(formula.Implies, left, p.formula())
	}
	return left
}

func (p *parser) or() *formula.Formula {
	left := p.and()
	for p.skip(bar) {
		left = formula.Two(formula.Or, left, p.and())
	}
	return left
}

func (p *parser) and() *formula.Formula {
	left := p.until()
	for p.skip(ampersand) {
		left = formula.Two(formula.And, left, p.until())
	}
	return left
}

func (p *parser) until() *formula.Formula {
	left := p.unary()
	if p.skip(letterU) {
		return formula.Two(formula.Until, left, p.unary())
	}
	return left
}

func (p *parser) unary() *formula.Formula {
	switch p.next() {
	case bang:
		return p.operator(formula.Not)
	case letterX:
		return p.operator(formula.Next)
	case letterN:
		return p.operator(formula.WeakNext)
	case letterF:
		return p.operator(formula.Finally)
	case letterG:
		return p.operator(formula.Globally)
	case opening:
		return p.bracket()
	case trueWord:
		return p.word(formula.True)
	case falseWord:
		return p.word(formula.False)
	case endWord:
		return p.word(formula.End)
	}
	return p.activity()
}

func (p *parser) operator(k formula.Kind) *formula.Formula {
	p.take(p.next())
	return formula.One(k, p.unary())
}

func (p *parser) bracket() *formula.Formula {
	p.take(opening)
	f := p.formula()
	p.take(closing)
	return f
}

func (p *parser) word(k formula.Kind) *formula.Formula {
	p.take(p.next())
	return formula.Word(k)
}

func (p *parser) activity() *formula.Formula {
	t := p.take(name)
	p.names = append(p.names, t)
	return formula.Activity(t.text)
}
