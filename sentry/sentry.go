// Package sentry watches cases by rules: see DOC.md.
package sentry

import (
	"sentry/api"
	"sentry/compile"
	"sentry/rules"
	"sentry/table"
)

// Print reads a model and writes it again; where a fault lies (P3).
func Print(model string) (string, int, api.Errno) {
	m, fault := rules.Read(model)
	if fault.Error != api.OK {
		return "", fault.Place, fault.Error
	}
	return m.Text(), 0, api.OK
}

// Holds tells whether a trace keeps a model's rules (P4).
func Holds(model string, trace []string) (bool, api.Errno) {
	m, fault := rules.Read(model)
	if fault.Error != api.OK {
		return false, fault.Error
	}
	if !m.Knows(trace) {
		return false, api.ErrName
	}
	return m.Keeps(trace), api.OK
}

// Compile makes a model's table (P5).
func Compile(model string) (api.Table, api.Errno) {
	m, fault := rules.Read(model)
	if fault.Error != api.OK {
		return api.Table{}, fault.Error
	}
	t, ok := compile.Table(m)
	if !ok {
		return api.Table{}, api.ErrBig
	}
	return t, api.OK
}

// Encode writes a table (P6).
func Encode(t api.Table) (string, api.Errno) {
	if !table.Right(t) {
		return "", api.ErrTable
	}
	return table.Bytes(t), api.OK
}

// Decode reads a table (P7).
func Decode(b string) (api.Table, api.Errno) {
	t, ok := table.Read(b)
	if !ok {
		return api.Table{}, api.ErrTable
	}
	return t, api.OK
}
