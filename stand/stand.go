// Package stand tells where a session of a machine stands.
package stand

import (
	"slices"

	"veil/api"
	"veil/ask"
	"veil/mach"
)

// Has: may the machine be, and is there such a session?
func Has(m api.Machine, at int) bool {
	return mach.May(m) && ask.UpTo(at, len(m.Sessions)-1)
}

// AtCode: is there such a session, does it run, and does one of these codes stand at its Pc? At its program's end no code stands.
func AtCode(m api.Machine, at int, codes ...int) bool {
	if !Has(m, at) {
		return false
	}
	who := m.Sessions[at]
	return who.Step == api.StepRun && who.Pc < len(who.Prog) && slices.Contains(codes, who.Prog[who.Pc].Code)
}
