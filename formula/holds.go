package formula

// step is a formula whose parts are steps ahead of it in a list.
type step struct {
	kind        Kind
	name        string
	left, right int
}

// place is a place of a trace, with what holds there and at the one behind it, by step.
type place struct {
	inside   bool // not behind all events
	name     string
	moreToGo bool // the next place is inside, too
	here     []bool
	next     []bool
}

// Holds tells whether the formula holds at the trace's first place. It goes from behind all events to the front, so that the time it takes grows with the trace's length and no more.
func (f *Formula) Holds(trace []string) bool {
	steps := appendSteps(nil, f)
	p := place{here: make([]bool, len(steps)), next: make([]bool, len(steps))}
	p.fill(steps)
	for i := len(trace) - 1; i >= 0; i-- {
		p.moreToGo = p.inside
		p.inside = true
		p.name = trace[i]
		p.here, p.next = p.next, p.here
		p.fill(steps)
	}
	return p.here[len(steps)-1]
}

// appendSteps puts the formula behind all its parts.
func appendSteps(steps []step, f *Formula) []step {
	s := step{kind: f.Kind, name: f.Name}
	if f.Left != nil {
		steps = appendSteps(steps, f.Left)
		s.left = len(steps) - 1
	}
	if f.Right != nil {
		steps = appendSteps(steps, f.Right)
		s.right = len(steps) - 1
	}
	return append(steps, s)
}

func (p *place) fill(steps []step) {
	for i, s := range steps {
		p.here[i] = p.holds(i, s)
	}
}

// holds is asked of the steps in their order: it looks up the parts of step i.
func (p *place) holds(i int, s step) bool {
	switch s.kind {
	case Act:
		return p.inside && p.name == s.name
	case True:
		return true
	case False:
		return false
	case End:
		return !p.inside
	case Not:
		return !p.here[s.left]
	case And:
		return p.here[s.left] && p.here[s.right]
	case Or:
		return p.here[s.left] || p.here[s.right]
	case Implies:
		return !p.here[s.left] || p.here[s.right]
	}
	return p.holdsOnward(i, s)
}

// holdsOnward is for the operators that look at later places. F, G and U go by what holds here and by whether they hold at the next place; behind all events they have no place to look at.
func (p *place) holdsOnward(i int, s step) bool {
	switch s.kind {
	case Next:
		return p.moreToGo && p.next[s.left]
	case WeakNext:
		return !p.moreToGo || p.next[s.left]
	case Finally:
		return p.inside && (p.here[s.left] || p.next[i])
	case Globally:
		return !p.inside || p.here[s.left] && p.next[i]
	}
	return p.inside && (p.here[s.right] || p.here[s.left] && p.next[i])
}
