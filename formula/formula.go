// Package formula has the formulas that rules are made of.
package formula

// Kind is the activity, word or operator that a formula begins with.
type Kind int

const (
	Act Kind = iota
	True
	False
	End
	Not
	Next     // X: there is a next place, and it holds there
	WeakNext // N: it holds at the next place, if there is one
	Finally  // F
	Globally // G
	Until    // U
	And
	Or
	Implies
)

// signs has no entry for Act: an activity is written by its name.
var signs = [...]string{
	True:     "true",
	False:    "false",
	End:      "end",
	Not:      "!",
	Next:     "X",
	WeakNext: "N",
	Finally:  "F",
	Globally: "G",
	Until:    "U",
	And:      "&",
	Or:       "|",
	Implies:  "->",
}

// Formula is never changed once it is made, so one may be a part of several others, or of one at several places.
type Formula struct {
	Kind  Kind
	Name  string   // of an activity
	Left  *Formula // an operator of one formula has it here
	Right *Formula
}

// Activity makes the formula of an activity.
func Activity(name string) *Formula { return &Formula{Kind: Act, Name: name} }

// Word makes True, False or End.
func Word(kind Kind) *Formula { return &Formula{Kind: kind} }

// One makes a formula of an operator and the formula behind it.
func One(kind Kind, f *Formula) *Formula { return &Formula{Kind: kind, Left: f} }

// Two makes a formula of an operator and the formulas on both sides of it.
func Two(kind Kind, left, right *Formula) *Formula {
	return &Formula{Kind: kind, Left: left, Right: right}
}

// Nodes counts a part as often as it stands in the formula, as if each were written out.
func (f *Formula) Nodes() int {
	if f == nil {
		return 0
	}
	return 1 + f.Left.Nodes() + f.Right.Nodes()
}

// Text writes the formula with brackets around every operator of two formulas.
func (f *Formula) Text() string {
	switch f.Kind {
	case Act:
		return f.Name
	case True, False, End:
		return signs[f.Kind]
	case Not, Next, WeakNext, Finally, Globally:
		return signs[f.Kind] + " " + f.Left.Text()
	}
	return "(" + f.Left.Text() + " " + signs[f.Kind] + " " + f.Right.Text() + ")"
}
