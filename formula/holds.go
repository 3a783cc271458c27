package formula

// step is a formula whose parts are steps ahead of it in a list.
type step struct {
	kind        Kind
	name        string
	left, right int
}

// Place is all that formulas can tell of a place of a trace: bit i is whether their step i holds there; the bit above those of the steps is whether the place is inside, not behind all events.
type Place uint32

func (p Place) has(i int) bool { return p>>i&1 == 1 }

// Walk goes through traces from behind all events to the front: what holds at a place hangs on its event and on the place behind it, and on nothing further off.
type Walk struct {
	steps []step
	whole Place // the steps that are the formulas themselves, not their parts
}

// NewWalk is for formulas of at most 31 nodes together: a Place has no room for more.
func NewWalk(formulas []*Formula) Walk {
	var w Walk
	for _, f := range formulas {
		w.steps = appendSteps(w.steps, f)
		w.whole |= 1 << (len(w.steps) - 1)
	}
	return w
}

// appendSteps puts the formula behind all its parts.
func appendSteps(steps []step, f *Formula) []step {
	s := step{kind: f.Kind, name: f.Name}
	if f.Left != nil {
		steps = appendSteps(steps, f.Left)
		s.left = len(steps) - 1
	}
	if f.Right != nil {
		steps = appendSteps(steps, f.Right)
		s.right = len(steps) - 1
	}
	return append(steps, s)
}

// Behind gives the place behind all events.
func (w Walk) Behind() Place { return w.fill(look{}) }

// Ahead gives the place of an event that has another place behind it.
func (w Walk) Ahead(next Place, event string) Place {
	return w.fill(look{inside: true, event: event, moreToGo: next.has(len(w.steps)), next: next})
}

// AllHold tells whether every formula holds at the place.
func (w Walk) AllHold(p Place) bool { return p&w.whole == w.whole }

// Holds tells whether every formula holds at the trace's first place.
func (w Walk) Holds(trace []string) bool {
	p := w.Behind()
	for i := len(trace) - 1; i >= 0; i-- {
		p = w.Ahead(p, trace[i])
	}
	return w.AllHold(p)
}

func (w Walk) fill(l look) Place {
	for i, s := range w.steps {
		if l.holds(i, s) {
			l.here |= 1 << i
		}
	}
	if l.inside {
		l.here |= 1 << len(w.steps)
	}
	return l.here
}

// look is what steps look at to tell whether they hold at a place.
type look struct {
	inside   bool
	event    string
	moreToGo bool // the next place is inside, too
	next     Place
	here     Place // filled as far as the steps have been asked
}

// holds is asked of the steps in their order: it looks up the parts of step i.
func (l *look) holds(i int, s step) bool {
	switch s.kind {
	case Act:
		return l.inside && l.event == s.name
	case True:
		return true
	case False:
		return false
	case End:
		return !l.inside
	case Not:
		return !l.here.has(s.left)
	case And:
		return l.here.has(s.left) && l.here.has(s.right)
	case Or:
		return l.here.has(s.left) || l.here.has(s.right)
	case Implies:
		return !l.here.has(s.left) || l.here.has(s.right)
	}
	return l.holdsOnward(i, s)
}

// holdsOnward is for the operators that look at later places. F, G and U go by what holds here and by whether they hold at the next place; behind all events they have no place to look at.
func (l *look) holdsOnward(i int, s step) bool {
	switch s.kind {
	case Next:
		return l.moreToGo && l.next.has(s.left)
	case WeakNext:
		return !l.moreToGo || l.next.has(s.left)
	case Finally:
		return l.inside && (l.here.has(s.left) || l.next.has(i))
	case Globally:
		return !l.inside || l.here.has(s.left) && l.next.has(i)
	}
	return l.inside && (l.here.has(s.right) || l.here.has(s.left) && l.next.has(i))
}
