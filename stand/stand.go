// Package stand tells where a session of a machine stands.
package stand

import (
	"slices"

	"veil/api"
	"veil/ask"
	"veil/mach"
)

// Has: may the machine be, and is there such a session?
func Has(m api.Machine, at int) bool {
	return mach.May(m) && ask.UpTo(at, len(m.Sessions)-1)
}

// AtStep: is there such a session, and is that its Step?
func AtStep(m api.Machine, at int, step int) bool {
	return Has(m, at) && m.Sessions[at].Step == step
}

// AtCode: is there such a session, does it run, and does one of these codes stand at its Pc? At its program's end no code stands.
func AtCode(m api.Machine, at int, codes ...int) bool {
	if !AtStep(m, at, api.StepRun) {
		return false
	}
	who := m.Sessions[at]
	return who.Pc < len(who.Prog) && slices.Contains(codes, who.Prog[who.Pc].Code)
}

// AtWrite: is there such a session, is that its Step, and is a write at its At? Behind the last of its writes none is.
func AtWrite(m api.Machine, at int, step int) bool {
	return AtStep(m, at, step) && m.Sessions[at].At < len(m.Sessions[at].Writes)
}
