package sentry

import (
	"slices"
	"strings"

	"sentry/api"
)

// Desk watches cases.
type Desk struct {
	deskTable
	cases map[string]*watched // pointers: to assign to a key that is there would keep the caller's text as the key
}

// watched is how a case stands.
type watched struct {
	state  int
	events int
}

// Open makes a desk of a table's bytes (P8).
func Open(b string) (*Desk, api.Errno) {
	t, e := Decode(b)
	if e != api.OK {
		return nil, e
	}
	d := &Desk{deskTable{t}, map[string]*watched{}}
	if !d.has(0, api.Alive) {
		return nil, api.ErrNever
	}
	return d, api.OK
}

// Start begins a case (P9).
func (d *Desk) Start(id string) api.Errno {
	if _, there := d.cases[id]; there {
		return api.ErrCase
	}
	if len(d.cases) >= api.MaxCases {
		return api.ErrFull
	}
	d.cases[strings.Clone(id)] = &watched{}
	return api.OK
}

// Event brings an event of a case (P10).
func (d *Desk) Event(id string, act string) api.Errno {
	c, there := d.cases[id]
	if !there {
		return api.ErrCase
	}
	next, e := d.step(c.state, act)
	if e != api.OK {
		return e
	}
	c.state = next
	c.events++
	return api.OK
}

// step gives the state to which an event leads, or why it may not come.
func (d *Desk) step(state int, act string) (int, api.Errno) {
	next, known := d.next(state, act)
	if !known {
		return 0, api.ErrName
	}
	if !d.has(next, api.Alive) {
		return 0, api.ErrBlock
	}
	return next, api.OK
}

// Options tells which events a case may have now (P11).
func (d *Desk) Options(id string) ([]string, api.Errno) {
	c, there := d.cases[id]
	if !there {
		return nil, api.ErrCase
	}
	var out []string
	for _, act := range d.table.Acts {
		if _, e := d.step(c.state, act); e == api.OK {
			out = append(out, strings.Clone(act))
		}
	}
	return out, api.OK
}

// Tell tells how a case stands (P12).
func (d *Desk) Tell(id string) (api.State, api.Errno) {
	c, there := d.cases[id]
	if !there {
		return api.State{}, api.ErrCase
	}
	return api.State{Events: c.events, MayEnd: d.has(c.state, api.Accept)}, api.OK
}

// End ends a case (P13).
func (d *Desk) End(id string) api.Errno {
	c, there := d.cases[id]
	if !there {
		return api.ErrCase
	}
	if !d.has(c.state, api.Accept) {
		return api.ErrEnd
	}
	delete(d.cases, id)
	return api.OK
}

// Cases tells the cases that are going on, rising (P14).
func (d *Desk) Cases() []string {
	var out []string
	for id := range d.cases {
		out = append(out, strings.Clone(id))
	}
	slices.Sort(out)
	return out
}
