package calc

import (
	"fmt"
	"math"
	"reflect"
	"slices"
	"testing"

	"veil/api"
	"veil/mach"
	"veil/sample"
)

// The limits are written out as numbers, so that they share no name with what they test.
const (
	maxSessions = 4
	maxTrace    = 512
	maxInsts    = 16
	maxClock    = 65535
	calcForm    = 1700
)

// labels are each label that may be and each clearance that it is below.
var labels = [][2]int{{0, 0}, {0, 1}, {0, 2}, {0, 3}, {1, 1}, {1, 3}, {2, 2}, {2, 3}, {3, 3}}

// edges are values of registers: those at the ends, about the middle, and those of which two are 255 or 256 together.
var edges = []int{0, 1, 2, 100, 127, 128, 129, 155, 156, 254, 255}

// three are one of each code that this layer does, for the middle of a program of three.
var three = []api.Inst{{Code: 0, A: 2, B: 77}, {Code: 1, A: 1, B: 2}, {Code: 4, A: 3, B: 3}}

// put sets the session at a place at an instruction, its Pc in a program of n; around are the others.
func put(m api.Machine, at int, i api.Inst, pc int, n int, around api.Inst) {
	s := &m.Sessions[at]
	s.Step, s.Pc = 0, pc
	s.Prog = slices.Repeat([]api.Inst{around}, n)
	s.Prog[pc] = i
}

// doing is a machine of four sessions that all stand at one instruction, the middle one of three.
func doing(i api.Inst) api.Machine {
	m := sample.Machine(4)
	for at := range m.Sessions {
		put(m, at, i, 1, 3, api.Inst{Code: 5})
	}
	return m
}

// arounds are instructions of a program of n that tell when they are asked in the stead of the one at Pc.
func arounds(n int) []api.Inst {
	return []api.Inst{{Code: 5}, {Code: 0, A: 2, B: 78}, {Code: 1, A: 3, B: 3}, {Code: 4, A: 1, B: n}, {Code: 2, A: 1, B: 1, C: 2}, {Code: 3, A: 1, B: 1}, {Code: 6, A: 9}}
}

// tell is a machine whole, each field by its name; an empty list and nil are one there.
func tell(m api.Machine) string { return fmt.Sprintf("%+v", m) }

func isZero(m api.Machine) bool { return reflect.DeepEqual(m, api.Machine{}) }

// wantStep is what Step must answer of a session that stands at one of the three codes.
func wantStep(m api.Machine, at int) api.Machine {
	m = sample.Copy(m)
	s := &m.Sessions[at]
	i := s.Prog[s.Pc]
	s.Pc++
	switch {
	case i.Code == 0:
		s.Regs[i.A] = i.B
	case i.Code == 1 && s.Regs[i.A]+s.Regs[i.B] > 255:
		s.Regs[i.A] += s.Regs[i.B] - 256
	case i.Code == 1:
		s.Regs[i.A] += s.Regs[i.B]
	case s.Regs[i.A] == 0:
		s.Pc = i.B
	}
	return m
}

// stepIs answers the session as Step leaves it, if all of the machine is what it must be.
func stepIs(t *testing.T, m api.Machine, at int) api.Session {
	t.Helper()
	return stepped(t, m, at).Sessions[at]
}

func stepped(t *testing.T, m api.Machine, at int) api.Machine {
	t.Helper()
	want := tell(wantStep(m, at))
	got, e := Step(m, at)
	if tell(got) != want || e != api.OK {
		t.Fatalf("P17.1: Step(%s, %d) = %s, %d, want %s, 0", tell(m), at, tell(got), e, want)
	}
	if !mach.May(got) {
		t.Fatalf("P17.1: Step(%s, %d) = %s, which may not be", tell(m), at, tell(got))
	}
	return got
}

func stepRefused(t *testing.T, what string, m api.Machine, at int) {
	t.Helper()
	if got, e := Step(m, at); !isZero(got) || e != calcForm {
		t.Fatalf("P17.1: %s: Step(.., %d) = %s, %d, want zero, 1700", what, at, tell(got), e)
	}
}

func TestLimits(t *testing.T) {
	if api.MaxSessions != maxSessions || api.MaxTrace != maxTrace || api.MaxInsts != maxInsts || api.MaxClock != maxClock || api.MaxValue != 255 || api.Registers != 4 {
		t.Fatal("the limits of these tests are not those of package api")
	}
	if api.ErrCalcForm != calcForm || api.OK != 0 || api.StepRun != 0 || api.StepDone != 6 || api.CodeSet != 0 || api.CodeAdd != 1 || api.CodeZero != 4 {
		t.Fatal("the numbers of these tests are not those of package api")
	}
	for _, i := range three {
		if !mach.May(doing(i)) {
			t.Fatalf("the machine of these tests for %+v may not be", i)
		}
	}
}

// These are written out whole, the answers too.
func TestOrdinary(t *testing.T) {
	m := api.Machine{
		Words: [4][]api.Word{{{Value: 4, Version: 6}}, {{Value: 5, Version: 2, Lock: 8}, {Value: 6, Version: 3, Lock: 6}}}, Clocks: [4]int{0, 2, 0, 0}, Ceiling: 9,
		Sessions: []api.Session{{Id: 5, Regs: [4]int{1, 2, 3, 4}, Stamp: 1}, {
			Id: 7, Label: 1, Clear: 3, Prog: []api.Inst{{Code: 5}, {}, {Code: 6, A: 3}, {Code: 5}}, Pc: 1, Regs: [4]int{200, 0, 56, 255},
			Reads: []api.Read{{Level: 0, Index: 0, Version: 5}}, Writes: []api.Write{{Level: 1, Index: 1, Value: 50}}, At: 1, Stamp: 3, Tries: 8, Result: 2, Told: 44,
		}},
		Trace: []api.Event{{Id: 7, Label: 1, Value: 5}},
	}
	whole := "{Words:[[{Value:4 Version:6 Lock:0}] [{Value:5 Version:2 Lock:8} {Value:6 Version:3 Lock:6}] [] []] Clocks:[0 2 0 0] Ceiling:9 Sessions:[" +
		"{Id:5 Label:0 Clear:0 Prog:[] Step:0 Pc:0 Regs:[1 2 3 4] Reads:[] Writes:[] At:0 Stamp:1 Tries:0 Result:0 Told:0} " +
		"{Id:7 Label:1 Clear:3 Prog:[{Code:5 A:0 B:0 C:0} %+v {Code:6 A:3 B:0 C:0} {Code:5 A:0 B:0 C:0}] Step:0 Pc:%d Regs:%v Reads:[{Level:0 Index:0 Version:5}] " +
		"Writes:[{Level:1 Index:1 Value:50}] At:1 Stamp:3 Tries:8 Result:2 Told:44}] Trace:[{Id:7 Label:1 Kind:0 Value:5}]}"
	for _, each := range []struct {
		inst api.Inst
		pc   int
		regs [4]int
	}{
		{api.Inst{Code: 0, A: 1, B: 9}, 2, [4]int{200, 9, 56, 255}},
		{api.Inst{Code: 0, A: 0, B: 0}, 2, [4]int{0, 0, 56, 255}},
		{api.Inst{Code: 0, A: 3, B: 255}, 2, [4]int{200, 0, 56, 255}},
		{api.Inst{Code: 1, A: 1, B: 3}, 2, [4]int{200, 255, 56, 255}},
		{api.Inst{Code: 1, A: 0, B: 2}, 2, [4]int{0, 0, 56, 255}},
		{api.Inst{Code: 1, A: 2, B: 3}, 2, [4]int{200, 0, 55, 255}},
		{api.Inst{Code: 1, A: 2, B: 2}, 2, [4]int{200, 0, 112, 255}},
		{api.Inst{Code: 1, A: 3, B: 3}, 2, [4]int{200, 0, 56, 254}},
		{api.Inst{Code: 4, A: 1, B: 3}, 3, [4]int{200, 0, 56, 255}},
		{api.Inst{Code: 4, A: 1, B: 4}, 4, [4]int{200, 0, 56, 255}},
		{api.Inst{Code: 4, A: 2, B: 4}, 2, [4]int{200, 0, 56, 255}},
	} {
		m.Sessions[1].Prog[1] = each.inst
		want := fmt.Sprintf(whole, each.inst, each.pc, each.regs)
		if got, e := Step(m, 1); tell(got) != want || e != api.OK {
			t.Errorf("P17.1: %+v: Step = %s, %d, want %s, 0", each.inst, tell(got), e, want)
		}
	}
	m.Sessions[1].Prog[1] = api.Inst{Code: 4, A: 1, B: 1}
	stepRefused(t, "a CodeZero that leads to itself", m, 1)
}

// Each register, each value before at the edges, each value that is set; the same one, too.
func TestEachSet(t *testing.T) {
	for register := range 4 {
		for _, before := range edges {
			for value := range 256 {
				at := (before + value) % maxSessions
				m := doing(api.Inst{Code: 0, A: register, B: value})
				m.Sessions[at].Regs[register] = before
				want := m.Sessions[at].Regs
				want[register] = value
				if got := stepIs(t, m, at); got.Regs != want || got.Pc != 2 {
					t.Fatalf("P17.1: register %d, %d, is set %d: the registers are %v, Pc is %d", register, before, value, got.Regs, got.Pc)
				}
			}
		}
	}
}

// Each register to each, itself too; the others hold one thing or another.
func TestEachAdd(t *testing.T) {
	for to := range 4 {
		for from := range 4 {
			for _, value := range edges {
				for _, more := range edges {
					for at := range maxSessions {
						addIs(t, at, api.Inst{Code: 1, A: to, B: from}, value, more)
					}
				}
			}
		}
	}
}

// Each value, and what makes 255 and 256 of it.
func TestEachSum(t *testing.T) {
	for value := range 256 {
		for _, sum := range []int{254, 255, 256, 257, 509, 510} {
			for register := range 4 {
				if more := sum - value; more >= 0 && more <= 255 {
					addIs(t, sum%maxSessions, api.Inst{Code: 1, A: register, B: (register + 1 + value%3) % 4}, value, more)
				}
				addIs(t, sum%maxSessions, api.Inst{Code: 1, A: register, B: register}, value, value)
			}
		}
	}
}

// addIs asks of an instruction that adds to a register of value one of more, or itself.
func addIs(t *testing.T, at int, i api.Inst, value int, more int) {
	t.Helper()
	m := doing(i)
	m.Sessions[at].Regs = [4]int{17 + at, 255 - more, more, value}
	m.Sessions[at].Regs[i.B] = more
	m.Sessions[at].Regs[i.A] = value
	want := m.Sessions[at].Regs
	want[i.A] = value + want[i.B]
	for want[i.A] > 255 {
		want[i.A] -= 256
	}
	if got := stepIs(t, m, at); got.Regs != want || got.Pc != 2 {
		t.Fatalf("P17.1: %+v of %d and %d: the registers are %v, want %v; Pc is %d", i, value, more, got.Regs, want, got.Pc)
	}
}

// Each register, all that it may hold, the others 0 or not.
func TestEachZero(t *testing.T) {
	for register := range 4 {
		for value := range 256 {
			for others := range 8 {
				at := (value + others) % maxSessions
				m := doing(api.Inst{Code: 4, A: register, B: 3})
				r := [4]int{value, others & 1, others & 2, others & 4 * 63}
				r[0], r[register] = r[register], r[0]
				m.Sessions[at].Regs = r
				want := 2
				if value == 0 {
					want = 3
				}
				if got := stepIs(t, m, at); got.Regs != r || got.Pc != want {
					t.Fatalf("P17.1: register %d of %v: Pc is %d, want %d, the registers are %v", register, r, got.Pc, want, got.Regs)
				}
			}
		}
	}
}

// From each place of programs of each length to each place that a CodeZero may lead to, the end among them; one more where the register is not 0, the end among them too.
func TestEachZeroLeads(t *testing.T) {
	for n := 1; n <= maxInsts; n++ {
		for pc := range n {
			for to := pc + 1; to <= n; to++ {
				for at := range maxSessions {
					register := (n + pc + to + at) % 4
					m := doing(api.Inst{})
					put(m, at, api.Inst{Code: 4, A: register, B: to}, pc, n, api.Inst{Code: 4, B: n})
					m.Sessions[at].Regs = [4]int{3, 2, 255, 1}
					if got := stepIs(t, m, at).Pc; got != pc+1 {
						t.Fatalf("P17.1: of a register that is not 0, from %d to %d of %d: Pc is %d", pc, to, n, got)
					}
					m.Sessions[at].Regs[register] = 0
					if got := stepIs(t, m, at).Pc; got != to {
						t.Fatalf("P17.1: of a register that is 0, from %d to %d of %d: Pc is %d", pc, to, n, got)
					}
				}
			}
		}
	}
}

// Pc at every instruction of programs of every length, among instructions that would tell otherwise.
func TestEachPlaceOfAProgram(t *testing.T) {
	for n := 1; n <= maxInsts; n++ {
		for pc := range n {
			for _, around := range arounds(n) {
				for which, i := range three {
					if i.Code == 4 {
						i.B = pc + 1
					}
					at := (n + pc + which) % maxSessions
					m := doing(api.Inst{})
					put(m, at, i, pc, n, around)
					if got := stepIs(t, m, at).Pc; got != pc+1 {
						t.Fatalf("P17.1: %+v at %d of %d: Pc is %d", i, pc, n, got)
					}
				}
			}
		}
	}
}

// Each session's place, of machines of each number of them; the others are as they begin, or not.
func TestEachPlace(t *testing.T) {
	for _, i := range three {
		for n := 1; n <= maxSessions; n++ {
			for at := range n {
				m := doing(i)
				m.Sessions = m.Sessions[:n]
				stepIs(t, m, at)
				for other := range n {
					if other != at {
						m.Sessions[other] = api.Session{Id: sample.Id(other)}
						stepIs(t, m, at)
					}
				}
			}
		}
	}
}

// No such session, a machine that may not be, a Step but StepRun, another code, a program's end: each where all else would do.
func TestRefused(t *testing.T) {
	var wrongs []sample.Wrong
	for pc := 2; pc <= 4; pc++ {
		ready := func(s *api.Session) { s.Step, s.Pc = 0, pc }
		m := sample.Machine(4)
		for at := range m.Sessions {
			ready(&m.Sessions[at])
			stepIs(t, m, at)
		}
		wrongs = slices.Concat(wrongs, sample.NoSession(ready), sample.MayNotBe(ready))
	}
	for _, right := range three[:2] {
		wrongs = append(wrongs, sample.NotAt(right, 0, 1, 4)...)
	}
	for _, w := range wrongs {
		stepRefused(t, w.What, w.Machine, w.At)
	}
}

// Each Step but StepRun at each of the three codes, and the end behind each of them, which may be far from Pc, too.
func TestStepsAndEnds(t *testing.T) {
	for _, i := range three {
		for at := range maxSessions {
			for step := 1; step <= 6; step++ {
				m := doing(i)
				m.Sessions[at].Step = step
				stepRefused(t, fmt.Sprintf("%+v at Step %d", i, step), m, at)
			}
			for n := range maxInsts + 1 {
				m := doing(api.Inst{})
				if i.Code == 4 {
					i.B = n
				}
				m.Sessions[at].Prog, m.Sessions[at].Pc = slices.Repeat([]api.Inst{i}, n), n
				stepRefused(t, fmt.Sprintf("the end of %d of %+v", n, i), m, at)
			}
		}
	}
}

// Several of these at once.
func TestSeveralAtOnce(t *testing.T) {
	for _, i := range three {
		for _, w := range sample.Several(func(int) api.Machine { return doing(i) },
			func(m *api.Machine, at int) { m.Sessions[at].Step = 1 },
			func(m *api.Machine, at int) { m.Sessions[at].Step = 6 },
			func(m *api.Machine, at int) { m.Sessions[at].Prog[1] = api.Inst{Code: 3, A: 1, B: 1, C: 2} },
			func(m *api.Machine, at int) { m.Sessions[at].Prog[1] = api.Inst{Code: 5} },
			func(m *api.Machine, at int) { m.Sessions[at].Prog[1].C = 1 },
			func(m *api.Machine, at int) { m.Sessions[at].Pc = 2 },
			func(m *api.Machine, at int) { m.Sessions[at].Pc = 3 },
			func(m *api.Machine, at int) { m.Sessions[at].Regs[2] = -1 },
			func(m *api.Machine, at int) { m.Sessions[3-at].Regs[1] = 256 },
			func(m *api.Machine, at int) { m.Ceiling = 0 },
			func(m *api.Machine, at int) { m.Trace = sample.Trace(maxTrace + 1) },
			func(m *api.Machine, at int) { m.Sessions = m.Sessions[:at] },
		) {
			stepRefused(t, w.What, w.Machine, w.At)
		}
	}
}

// What an instruction names is not there, or it names what its code does not; a CodeZero does not lead on, or leads too far.
func TestInstsThatMayNotBe(t *testing.T) {
	var wrong []api.Inst
	for _, n := range []int{-1, 4, 5, 256, 1 << 32, math.MaxInt, math.MinInt} {
		wrong = append(wrong, api.Inst{Code: 0, A: n}, api.Inst{Code: 1, A: n}, api.Inst{Code: 1, B: n}, api.Inst{Code: 4, A: n, B: 3}, api.Inst{Code: 4, B: n})
		wrong = append(wrong, api.Inst{Code: 0, C: n}, api.Inst{Code: 1, C: n}, api.Inst{Code: 4, B: 3, C: n})
	}
	for _, n := range []int{-1, 256, 257, 1 << 32, math.MaxInt, math.MinInt} {
		wrong = append(wrong, api.Inst{Code: 0, B: n})
	}
	for _, code := range []int{-1, 7, 256, 260, 1 << 32, 1<<32 + 4, math.MaxInt, math.MinInt} {
		wrong = append(wrong, api.Inst{Code: code}, api.Inst{Code: code, B: 3})
	}
	for _, to := range []int{0, 1, 4, 16, 17} {
		wrong = append(wrong, api.Inst{Code: 4, A: 1, B: to})
	}
	for _, i := range wrong {
		for at := range maxSessions {
			stepRefused(t, fmt.Sprintf("%+v", i), doing(i), at)
		}
	}
}

// Registers that may not be: those that are named, the one too that would be written over, and the others.
func TestRegistersThatMayNotBe(t *testing.T) {
	for _, i := range three {
		for at := range maxSessions {
			for register := range 4 {
				for _, value := range []int{-1, 256, 257, -255, math.MaxInt, math.MinInt} {
					m := doing(i)
					m.Sessions[at].Regs[register] = value
					for asked := range maxSessions {
						stepRefused(t, fmt.Sprint("register ", register, " is ", value), m, asked)
					}
				}
			}
		}
	}
}

// Nothing is told, whether there is room for it or not.
func TestTraces(t *testing.T) {
	for _, n := range []int{0, 1, 2, 255, 256, 510, maxTrace - 1, maxTrace} {
		for _, i := range three {
			for at := range maxSessions {
				m := doing(i)
				m.Trace = sample.Trace(maxTrace + 9)[:n]
				if got := stepped(t, m, at).Trace; !slices.Equal(got, m.Trace) {
					t.Errorf("P17.1: behind %d events there are %d", n, len(got))
				}
			}
		}
	}
}

// Whatever the words are, and whoever locks them, they stay, and hinder nothing; so do a label, what was read and what is to be written.
func TestNoWordAndNoLabelTells(t *testing.T) {
	for _, i := range three {
		for at := range maxSessions {
			for lock := range 256 {
				m := doing(i)
				for word := range 16 {
					m.Words[word/4][word%4] = api.Word{Value: 255 - lock, Version: 257 * lock, Lock: lock}
				}
				if got := stepped(t, m, at); fmt.Sprint(got.Words) != fmt.Sprint(m.Words) {
					t.Fatalf("P17.1: behind %+v the words are %v, were %v", i, got.Words, m.Words)
				}
			}
			for _, pair := range labels {
				m := doing(i)
				m.Sessions[at].Label, m.Sessions[at].Clear = pair[0], pair[1]
				stepIs(t, m, at)
			}
		}
	}
}

// From none to all words are in Reads, of their version or of another, and in Writes; At is anything that it may be.
func TestListsStay(t *testing.T) {
	for _, i := range three {
		for at := range maxSessions {
			for n := range 17 {
				m := doing(i)
				s := &m.Sessions[at]
				s.Reads, s.Writes = nil, nil
				for word := range n {
					s.Reads = append(s.Reads, api.Read{Level: word % 4, Index: word / 4, Version: m.Words[word%4][word/4].Version + word%2})
					s.Writes = append(s.Writes, api.Write{Level: word / 4, Index: word % 4, Value: 240 + word})
				}
				for so := range n + 1 {
					s.At = so
					stepIs(t, m, at)
				}
			}
		}
	}
}

// What else the session and the machine have, whatever it is, stays as it is, and is not asked.
func TestNothingElseTurns(t *testing.T) {
	for _, i := range three {
		for at := range maxSessions {
			for _, n := range []int{0, 1, 127, 254, 255} {
				for result := range 6 {
					m := doing(i)
					s := &m.Sessions[at]
					s.Told, s.Tries, s.Stamp, s.Result = n, 257*n, maxClock-257*n, result
					m.Ceiling, m.Clocks = maxClock, [4]int{n, 257 * n, maxClock, 0}
					stepIs(t, m, at)
				}
			}
			for step := range 7 {
				m := doing(i)
				for other := range m.Sessions {
					if other != at {
						m.Sessions[other].Step, m.Sessions[other].Pc, m.Sessions[other].Regs = step, other%4, [4]int{0, 0, 255, 255}
					}
				}
				stepIs(t, m, at)
			}
		}
	}
}

// doubling doubles 3 as long as register 3 is not 0, which is one less each time: it goes forward alone, so each doubling stands there for itself.
func doubling() []api.Inst {
	p := []api.Inst{{Code: 0, A: 1, B: 3}, {Code: 0, A: 2, B: 255}}
	for range 4 {
		p = append(p, api.Inst{Code: 4, A: 3, B: 14}, api.Inst{Code: 1, A: 1, B: 1}, api.Inst{Code: 1, A: 3, B: 2})
	}
	return append(p, api.Inst{Code: 4, A: 0, B: 16}, api.Inst{Code: 0, A: 1, B: 255})
}

// A program as long as can be, from its beginning to its end; then nothing stands there any more.
func TestOneBehindAnother(t *testing.T) {
	for at := range maxSessions {
		for times, doubled := range []int{3, 6, 12, 24, 48} {
			for first, want := range []int{doubled, 255} {
				m := doing(api.Inst{})
				s := &m.Sessions[at]
				s.Prog, s.Pc, s.Regs = doubling(), 0, [4]int{first, 9, 9, times}
				steps := 0
				for m.Sessions[at].Pc < maxInsts {
					m = stepped(t, m, at)
					steps++
				}
				got, wantSteps := m.Sessions[at].Regs, 4+3*times+first-times/4
				if steps != wantSteps || got != [4]int{first, want, 255, 0} {
					t.Errorf("P17.1: behind %d steps, want %d, the registers are %v", steps, wantSteps, got)
				}
				stepRefused(t, "the program's end", m, at)
			}
		}
	}
}

// machines are some in which something is done, of each code, and some that are refused.
func machines() []api.Machine {
	all := []api.Machine{{}, sample.Machine(0), sample.Machine(4)}
	for _, i := range append(three, api.Inst{Code: 5}) {
		for _, n := range []int{0, 2, maxTrace - 1, maxTrace, maxTrace + 1} {
			m := doing(i)
			m.Trace = sample.Trace(n)
			all = append(all, m)
		}
		for register := range 4 {
			m := doing(i)
			m.Sessions[register].Regs = [4]int{}
			m.Sessions[register].Writes, m.Sessions[register].At = nil, 0
			all = append(all, m)
		}
	}
	for _, fault := range sample.Faults() {
		m := doing(three[0])
		m.Sessions[0] = sample.Session(0)
		m.Sessions[1] = sample.Session(1)
		fault(&m)
		all = append(all, m)
	}
	return all
}

// Nothing handed in is turned, kept or shared, and what is answered hangs on the arguments alone.
func TestRules(t *testing.T) {
	if broken := sample.AnyBrokenAt(machines(), Step); broken != "" {
		t.Error(broken)
	}
}

// One list that stands in a machine handed in several times stands in the answer as several.
func TestListsThatWereOne(t *testing.T) {
	prog, reads, writes := append([]api.Inst{{}}, three[1:]...), []api.Read{{}}, []api.Write{{Level: 2, Index: 1, Value: 8}}
	for pc := range prog {
		m := sample.Tangled(api.Session{Prog: prog, Pc: pc, Reads: reads, Writes: writes})
		for at := range maxSessions {
			if sample.Shared(stepped(t, m, at)) {
				t.Errorf("R4: two lists of an answer are one")
			}
		}
	}
}
