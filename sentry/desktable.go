package sentry

import (
	"slices"

	"sentry/api"
)

// deskTable is the right table that a desk goes by. Nothing of it is exported: what a desk has by promotion its owner would have, too.
type deskTable struct {
	table api.Table
}

// next gives the state to which the activity leads, and false if there is no such activity.
func (t deskTable) next(state int, act string) (int, bool) {
	i := slices.Index(t.table.Acts, act)
	if i < 0 {
		return 0, false
	}
	return t.table.Next[state][i], true
}

func (t deskTable) has(state, flag int) bool { return t.table.Flags[state]&flag != 0 }
