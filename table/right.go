// Package table tells which tables are right, and writes and reads their bytes.
package table

import (
	"slices"

	"sentry/api"
	"sentry/rules"
)

// Right asks the small things first: each check counts on those ahead of it.
func Right(t api.Table) bool {
	return rightActs(t.Acts) && rightRows(t) && rightFlags(t)
}

func rightActs(acts []string) bool {
	if len(acts) < 1 || len(acts) > api.MaxActs {
		return false
	}
	for i, a := range acts {
		if !rules.IsName(a) || slices.Contains(acts[:i], a) {
			return false
		}
	}
	return true
}

func rightRows(t api.Table) bool {
	count := len(t.Next)
	if count < 1 || count > api.MaxStates || len(t.Flags) != count {
		return false
	}
	for _, row := range t.Next {
		if len(row) != len(t.Acts) || !allStates(row, count) {
			return false
		}
	}
	return true
}

func allStates(row []int, count int) bool {
	for _, next := range row {
		if next < 0 || next >= count {
			return false
		}
	}
	return true
}

func rightFlags(t api.Table) bool {
	for s, alive := range aliveStates(t) {
		f := t.Flags[s]
		if f < 0 || f > api.Accept+api.Alive || alive != (f&api.Alive != 0) {
			return false
		}
	}
	return true
}

// aliveStates tells of each state whether some trace from there leads to one with Accept. It goes by the flag Accept alone, and on from state to state until a round finds no more.
func aliveStates(t api.Table) []bool {
	alive := make([]bool, len(t.Next))
	for more := true; more; {
		more = false
		for s, row := range t.Next {
			if !alive[s] && (t.Flags[s]&api.Accept != 0 || leadsTo(row, alive)) {
				alive[s] = true
				more = true
			}
		}
	}
	return alive
}

func leadsTo(row []int, states []bool) bool {
	for _, next := range row {
		if states[next] {
			return true
		}
	}
	return false
}
