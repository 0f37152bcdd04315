package stand

import (
	"fmt"
	"math"
	"testing"

	"veil/api"
	"veil/mach"
	"veil/sample"
)

// far are no session's place.
var far = []int{-1, -2, -4, -5, 5, 255, 256, 260, 1 << 32, 1<<32 + 1, math.MaxInt, math.MinInt}

func TestHas(t *testing.T) {
	for n := range 5 {
		for at := -1; at <= 5; at++ {
			if got := Has(sample.Machine(n), at); got != (at >= 0 && at < n) {
				t.Errorf("Has(%d sessions, %d) is %v", n, at, got)
			}
		}
		for _, at := range far {
			if Has(sample.Machine(n), at) {
				t.Errorf("Has(%d sessions, %d) is true", n, at)
			}
		}
	}
}

func TestHasOfMachinesThatMayNotBe(t *testing.T) {
	for which, fault := range sample.Faults() {
		m := sample.Machine(4)
		fault(&m)
		for at := range 5 {
			if Has(m, at) || AtCode(m, at, 0, 1, 2, 3, 4, 5, 6) {
				t.Errorf("with fault %d, session %d is there", which, at)
			}
			for step := range 7 {
				if AtStep(m, at, step) || AtWrite(m, at, step) {
					t.Errorf("with fault %d, session %d is at Step %d", which, at, step)
				}
			}
		}
	}
}

// each is an instruction of each code, that may stand anywhere in a program of six.
var each = []api.Inst{{Code: 0, A: 1, B: 2}, {Code: 1, A: 2, B: 1}, {Code: 2, B: 2, C: 1}, {Code: 3, B: 3, C: 2}, {Code: 4, A: 1, B: 6}, {Code: 5}, {Code: 6, A: 9}}

// Every step, every place of the program and its end, every code there, of the session at each place, with each two codes asked for, and none, one, all.
func TestAtCode(t *testing.T) {
	for at := range 4 {
		for step := range 7 {
			for pc := range 7 {
				for code := range 7 {
					m := sample.Machine(4)
					s := &m.Sessions[at]
					s.Step, s.Pc = step, pc
					s.Prog = []api.Inst{{Code: 5}, {Code: 5}, {Code: 5}, {Code: 5}, {Code: 5}, {Code: 5}}
					if pc < 6 {
						s.Prog[pc] = each[code]
					}
					if !mach.May(m) {
						t.Fatalf("the machine may not be: %+v", m)
					}
					atCodeIs(t, m, at)
				}
			}
		}
	}
}

func atCodeIs(t *testing.T, m api.Machine, at int) {
	t.Helper()
	s := m.Sessions[at]
	stands := s.Step == 0 && s.Pc < len(s.Prog)
	what := fmt.Sprintf("Step %d, Pc %d of %+v", s.Step, s.Pc, s.Prog)
	if AtCode(m, at) {
		t.Fatalf("%s: at one of no code", what)
	}
	if got := AtCode(m, at, 0, 1, 2, 3, 4, 5, 6); got != stands {
		t.Fatalf("%s: at one of all codes is %v", what, got)
	}
	for first := -1; first <= 7; first++ {
		if got, want := AtCode(m, at, first), stands && s.Prog[s.Pc].Code == first; got != want {
			t.Fatalf("%s: AtCode(.., %d) is %v", what, first, got)
		}
		for second := -1; second <= 7; second++ {
			if got, want := AtCode(m, at, first, second), stands && (s.Prog[s.Pc].Code == first || s.Prog[s.Pc].Code == second); got != want {
				t.Fatalf("%s: AtCode(.., %d, %d) is %v", what, first, second, got)
			}
		}
	}
}

func TestAtCodeOfNoProgram(t *testing.T) {
	m := api.Machine{Sessions: []api.Session{{}}}
	if AtCode(m, 0, 0, 1, 2, 3, 4, 5, 6) {
		t.Error("a code stands in a program of none")
	}
	for _, at := range append(far, 1) {
		if AtCode(m, at, 0) {
			t.Errorf("a code stands at session %d of one", at)
		}
	}
}

// Each Step beside each one asked for, of the session at each place, At from none of its writes to all of them, of each number of writes.
func TestAtStepAndAtWrite(t *testing.T) {
	for at := range 4 {
		for step := range 7 {
			for n := range 5 {
				for so := range n + 1 {
					m := sample.Machine(4)
					s := &m.Sessions[at]
					s.Step, s.Writes, s.At = step, sample.Writes(sample.But(-1, n)...), so
					for asked := -1; asked <= 7; asked++ {
						if got, want := AtStep(m, at, asked), asked == step; got != want {
							t.Fatalf("at Step %d: AtStep(.., %d) is %v", step, asked, got)
						}
						if got, want := AtWrite(m, at, asked), asked == step && so < n; got != want {
							t.Fatalf("at Step %d, At %d of %d writes: AtWrite(.., %d) is %v", step, so, n, asked, got)
						}
					}
				}
			}
		}
	}
}

func TestAtStepOfNoSession(t *testing.T) {
	for n := range 5 {
		m := sample.Machine(n)
		for at := range m.Sessions {
			m.Sessions[at].Step, m.Sessions[at].At = 0, 0
		}
		for _, at := range append(far, n) {
			if AtStep(m, at, 0) || AtWrite(m, at, 0) {
				t.Errorf("session %d of %d is at a Step", at, n)
			}
		}
	}
}
