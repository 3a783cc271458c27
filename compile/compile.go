// Package compile makes a model's table.
package compile

import (
	"slices"

	"sentry/api"
	"sentry/rules"
)

// states numbers the table's states as they are met. A state is a set of places: what has come leads to it, and what is still to come keeps the rules just if the place at its begin is in the set. Every place is the begin of some trace, so sets that differ are told apart by some trace: no table has fewer states.
type states struct {
	sets    []set
	numbers map[set]int
}

// Table tells false if the table has too many states.
func Table(m rules.Model) (api.Table, bool) {
	b := readBackward(m)
	all := states{numbers: map[set]int{}}
	all.number(b.keeping)
	t := api.Table{Acts: slices.Clone(m.Acts)}
	for at := 0; at < len(all.sets); at++ {
		s := all.sets[at]
		row := make([]int, len(m.Acts))
		for act := range row {
			row[act] = all.number(b.behind(s, act))
		}
		if len(all.sets) > api.MaxStates {
			return api.Table{}, false
		}
		t.Flags = append(t.Flags, flags(s))
		t.Next = append(t.Next, row)
	}
	return t, true
}

func (all *states) number(s set) int {
	n, known := all.numbers[s]
	if !known {
		n = len(all.sets)
		all.numbers[s] = n
		all.sets = append(all.sets, s)
	}
	return n
}

// flags: place 0 is the begin of the trace of nothing; and as each place is the begin of some trace, any of them is enough for Alive.
func flags(s set) int {
	sum := 0
	if s.has(0) {
		sum += api.Accept
	}
	if !s.empty() {
		sum += api.Alive
	}
	return sum
}
