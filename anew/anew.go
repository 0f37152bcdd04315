// Package anew copies what layers are handed, since no answer shares memory with an argument.
package anew

import (
	"veil/api"
)

// List appends to nil, since a clone of an empty list would keep that list's place.
func List[T any](list []T) []T {
	return append([]T(nil), list...)
}

// Words copies all levels, those that are not turned too.
func Words(ws [4][]api.Word) [4][]api.Word {
	for level, list := range ws {
		ws[level] = List(list)
	}
	return ws
}

// Machine copies each list that a machine holds, those of its sessions too.
func Machine(m api.Machine) api.Machine {
	m.Words = Words(m.Words)
	m.Sessions = List(m.Sessions)
	for at := range m.Sessions {
		s := &m.Sessions[at]
		s.Prog, s.Reads, s.Writes = List(s.Prog), List(s.Reads), List(s.Writes)
	}
	m.Trace = List(m.Trace)
	return m
}
