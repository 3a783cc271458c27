// Package sentry watches cases by rules: see DOC.md.
package sentry

import (
	"sentry/api"
	"sentry/compile"
	"sentry/rules"
	"sentry/table"
)

// Print reads a model and writes it again; where a fault lies (P3).
func Print(model string) (string, int, api.Errno) {
	m, fault := rules.Read(model)
	if fault.Error != api.OK {
		return "", fault.Place, fault.Error
	}
	return m.Text(), 0, api.OK
}

// Holds tells whether a trace keeps a model's rules (P4).
func Holds(model string, trace []string) (bool, api.Errno) {
	m, fault := rules.Read(model)
	if fault.Error != api.OK {
		return false, fault.Error
	}
	if !m.Knows(trace) {
		return false, api.ErrName
	}
	return m.Keeps(trace), api.OK
}

// Compile makes a model's table (P5).
func Compile(model string) (api.Table, api.Errno) {
	m, fault := rules.Read(model)
	if fault.Error != api.OK {
		return api.Table{}, fault.Error
	}
	t, ok := compile.Table(m)
	if !ok {
		return api.Table{}, api.ErrBig
	}
	return t, api.OK
}

// Encode writes a table (P6).
func Encode(t api.Table) (string, api.Errno) {
	if !table.Right(t) {
		return "", api.ErrTable
	}
	return table.Bytes(t), api.OK
}

// Decode reads a table (P7).
func Decode(b string) (api.Table, api.Errno) {
	t, ok := table.Read(b)
	if !ok {
		return api.Table{}, api.ErrTable
	}
	return t, api.OK
}

// Desk watches cases.
type Desk struct{}

// Open makes a desk of a table's bytes (P8).
func Open(b string) (*Desk, api.Errno) { return nil, api.OK }

// Start begins a case (P9).
func (d *Desk) Start(id string) api.Errno { return api.OK }

// Event brings an event of a case (P10).
func (d *Desk) Event(id string, act string) api.Errno { return api.OK }

// Options tells which events a case may have now (P11).
func (d *Desk) Options(id string) ([]string, api.Errno) { return nil, api.OK }

// Tell tells how a case stands (P12).
func (d *Desk) Tell(id string) (api.State, api.Errno) { return api.State{}, api.OK }

// End ends a case (P13).
func (d *Desk) End(id string) api.Errno { return api.OK }

// Cases tells the cases that are going on, rising (P14).
func (d *Desk) Cases() []string { return nil }
