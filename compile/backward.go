package compile

import (
	"strings"

	"sentry/formula"
	"sentry/rules"
)

// backward reads traces from their last event to their first. It has every place that any trace has at its begin, numbered as they are found; 0 is the one behind all events.
type backward struct {
	ahead   [][]int // by place, then by activity: the place ahead of it
	keeping set     // the places at which all rules hold
}

// set is a set of places: byte i is 1 if place i is in it, else 0. It is a string so that it can be a key of a map.
type set string

func (s set) has(place int) bool { return s[place] == 1 }

func (s set) empty() bool { return !strings.Contains(string(s), "\x01") }

func readBackward(m rules.Model) backward {
	walk := m.Walk()
	places := []formula.Place{walk.Behind()}
	numbers := map[formula.Place]int{walk.Behind(): 0}
	var b backward
	for at := 0; at < len(places); at++ {
		row := make([]int, len(m.Acts))
		for i, act := range m.Acts {
			p := walk.Ahead(places[at], act)
			n, known := numbers[p]
			if !known {
				n = len(places)
				numbers[p] = n
				places = append(places, p)
			}
			row[i] = n
		}
		b.ahead = append(b.ahead, row)
	}
	b.keeping = keeping(walk, places)
	return b
}

func keeping(walk formula.Walk, places []formula.Place) set {
	in := make([]byte, len(places))
	for i, p := range places {
		if walk.AllHold(p) {
			in[i] = 1
		}
	}
	return set(in)
}

// behind gives the places from which the activity leads ahead into the set.
func (b backward) behind(s set, act int) set {
	in := make([]byte, len(b.ahead))
	for place, row := range b.ahead {
		in[place] = s[row[act]]
	}
	return set(in)
}
