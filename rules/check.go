package rules

import (
	"slices"

	"sentry/api"
	"sentry/template"
)

// Fault is what is wrong with a model, and at which place; the zero Fault is none.
type Fault struct {
	Place int
	Error api.Errno
}

type checker struct {
	acts  []string
	fault Fault
}

// check tells the fault of a model that follows the grammar, but for one of too many nodes.
func check(s source) Fault {
	c := &checker{}
	for i, t := range s.acts {
		c.checkAct(i, t)
	}
	for i, r := range s.rules {
		c.checkRule(i, r)
	}
	return c.fault
}

// tell keeps the fault of the least place; of one place the first that is told, so the checks of a token go by rank: ErrLong, ErrName, ErrCount.
func (c *checker) tell(place int, e api.Errno) {
	if c.fault.Error == api.OK || place < c.fault.Place {
		c.fault = Fault{place, e}
	}
}

func (c *checker) checkAct(i int, t token) {
	c.checkLength(t)
	if slices.Contains(c.acts, t.text) {
		c.tell(t.place, api.ErrName)
	}
	if i >= api.MaxActs {
		c.tell(t.place, api.ErrCount)
	}
	c.acts = append(c.acts, t.text)
}

func (c *checker) checkLength(t token) {
	if len(t.text) > api.MaxName {
		c.tell(t.place, api.ErrLong)
	}
}

func (c *checker) checkRule(i int, r ruleSource) {
	if i >= api.MaxRules {
		c.tell(r.word.place, api.ErrCount)
	}
	for _, t := range r.names {
		c.checkKnown(t)
	}
	if r.call != nil {
		c.checkCall(r.call)
	}
}

func (c *checker) checkKnown(t token) {
	c.checkLength(t)
	if !slices.Contains(c.acts, t.text) {
		c.tell(t.place, api.ErrName)
	}
}

func (c *checker) checkCall(call *callSource) {
	c.checkLength(call.word)
	t, ok := template.Find(call.word.text)
	if !ok {
		c.tell(call.word.place, api.ErrName)
		return
	}
	for i, arg := range call.args {
		if arg.kind == name {
			c.checkKnown(arg)
		}
		if i >= len(t.Takes) || !fits(arg, t.Takes[i]) {
			c.tell(arg.place, api.ErrCount)
		}
	}
	if len(call.args) < len(t.Takes) {
		c.tell(call.closing.place, api.ErrCount)
	}
}

func fits(arg token, p template.Param) bool {
	if p == template.Activity {
		return arg.kind == name
	}
	return arg.kind == digit && 1 <= number(arg) && number(arg) <= api.MaxTimes
}

// number is for a digit.
func number(t token) int { return int(t.text[0] - '0') }
