// Package trial is for tests alone: it asks of a layer's step what the tests of such layers ask.
package trial

import (
	"veil/api"
	"veil/mach"
	"veil/sample"
)

// Reporter is what a test is told by.
type Reporter interface {
	Helper()
	Fatalf(format string, values ...any)
}

// Layer is a layer's step: the promise that it keeps, the errno by which it refuses, and what it must answer where it does not.
type Layer struct {
	Promise string
	Step    sample.Step
	Refusal api.Errno
	Want    func(m api.Machine, at int) api.Machine
}

// Is answers what the step does, if that is what it must be.
func (l Layer) Is(t Reporter, m api.Machine, at int) api.Machine {
	t.Helper()
	want := l.Want(m, at)
	got, errno := l.Step(m, at)
	if !sample.Same(got, want) || errno != api.OK {
		t.Fatalf("%s: Step(%+v, %d) = %+v, %d, want %+v, 0", l.Promise, m, at, got, errno, want)
	}
	if !mach.May(got) {
		t.Fatalf("%s: Step(%+v, %d) = %+v, which may not be", l.Promise, m, at, got)
	}
	return got
}

// Refused asks whether the step refuses.
func (l Layer) Refused(t Reporter, what string, m api.Machine, at int) {
	t.Helper()
	if got, errno := l.Step(m, at); !sample.Same(got, api.Machine{}) || errno != l.Refusal {
		t.Fatalf("%s: %s: Step(.., %d) = %+v, %d, want zero, %d", l.Promise, what, at, got, errno, l.Refusal)
	}
}

// AllRefused asks whether the step refuses each of these.
func (l Layer) AllRefused(t Reporter, wrongs []sample.Wrong) {
	t.Helper()
	for _, w := range wrongs {
		l.Refused(t, w.What, w.Machine, w.At)
	}
}

// EachIs asks the step of the session at each place of a machine, and whether two lists of an answer are one.
func (l Layer) EachIs(t Reporter, m api.Machine) {
	t.Helper()
	for at := range m.Sessions {
		if sample.Shared(l.Is(t, m, at)) {
			t.Fatalf("R4: Step(%+v, %d): two lists of the answer are one", m, at)
		}
	}
}
