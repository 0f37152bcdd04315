package drift

import (
	"fmt"
	"math"
	"reflect"
	"slices"
	"sync"
	"testing"

	"veil/api"
	"veil/mach"
	"veil/sample"
	"veil/undo"
)

// The limits are written out as numbers, so that they share no name with what they test.
const (
	maxSessions = 4
	maxTrace    = 512
	maxInsts    = 16
	eventFloat  = 2
	eventEnd    = 6
	resultClear = 4
	driftForm   = 1400
)

// far are no session's place.
var far = []int{
	-1, -2, -3, -4, -5, -255, -256, 4, 5, 6, 7, 8, 255, 256, 65535, 65536, 1 << 31, 1 << 32, 1<<32 + 1, 1<<32 + 3,
	math.MaxInt32, math.MaxInt - 1, math.MaxInt, math.MinInt32, math.MinInt, math.MinInt + 1, math.MinInt + 3,
}

// pairs are each label that may be and each clearance that it is below.
var pairs = [][2]int{{0, 0}, {0, 1}, {0, 2}, {0, 3}, {1, 1}, {1, 3}, {2, 2}, {2, 3}, {3, 3}}

// notBelow: is that level not below that label?
func notBelow(level int, label int) bool {
	switch label {
	case 0:
		return level != 0
	case 1:
		return level == 2 || level == 3
	case 2:
		return level == 1 || level == 3
	}
	return false
}

// joins are those of a label and a level.
var joins = [4][4]int{{0, 1, 2, 3}, {1, 1, 3, 3}, {2, 3, 2, 3}, {3, 3, 3, 3}}

// spot is where a session stands: its labels, the level that it reads, its Pc in a program of n; around are the other instructions.
type spot struct {
	label, clear, level, pc, n int
	around                     api.Inst
}

// put sets the session at a place on a spot.
func put(m api.Machine, at int, p spot) api.Machine {
	s := &m.Sessions[at]
	s.Step, s.Label, s.Clear, s.Pc = 0, p.label, p.clear, p.pc
	s.Prog = slices.Repeat([]api.Inst{p.around}, p.n)
	s.Prog[p.pc] = api.Inst{Code: 2, A: at, B: p.level, C: (p.level + p.pc) % 4}
	return m
}

// arounds are instructions that tell when they are asked in the stead of the one at Pc.
var arounds = []api.Inst{{Code: 5}, {Code: 2, B: 0}, {Code: 2, B: 3}, {Code: 3, B: 3}, {Code: 2, B: 1}, {Code: 2, B: 2}}

// needing is a machine whose session at a place may rise from 1 to 3.
func needing(at int) api.Machine {
	return put(sample.Machine(4), at, spot{1, 3, 2, 1, 3, api.Inst{Code: 5}})
}

// ending is a machine whose session at a place needs to rise, but may not.
func ending(at int) api.Machine {
	return put(sample.Machine(4), at, spot{1, 1, 2, 1, 3, api.Inst{Code: 5}})
}

// trace is of n events, with room for more behind them.
func trace(n int) []api.Event { return sample.Trace(maxTrace + 9)[:n] }

// tell is a machine whole, each field by its name; an empty list and nil are one there.
func tell(m api.Machine) string { return fmt.Sprintf("%+v", m) }

func isZero(m api.Machine) bool { return reflect.DeepEqual(m, api.Machine{}) }

// wantStep is what Step must answer where something is needed.
func wantStep(m api.Machine, at int) api.Machine {
	m = sample.Copy(m)
	s := &m.Sessions[at]
	join := joins[s.Label][s.Prog[s.Pc].B]
	if notBelow(join, s.Clear) {
		m, _ = undo.End(m, at, resultClear, 0)
		return m
	}
	if len(m.Trace) != maxTrace {
		m.Trace = append(m.Trace, api.Event{Id: s.Id, Label: s.Label, Kind: eventFloat, Value: join})
	}
	s.Label = join
	return m
}

// needsIs asks Needs of a session that stands at a CodeRead.
func needsIs(t *testing.T, m api.Machine, at int) bool {
	t.Helper()
	s := m.Sessions[at]
	want := notBelow(s.Prog[s.Pc].B, s.Label)
	if got, e := Needs(m, at); got != want || e != api.OK {
		t.Fatalf("P14.1: Needs(%s, %d) = %v, %d, want %v, 0", tell(m), at, got, e, want)
	}
	return want
}

// stepIs answers what Step does where something is needed, if that is what it must be.
func stepIs(t *testing.T, m api.Machine, at int) api.Machine {
	t.Helper()
	want := tell(wantStep(m, at))
	got, e := Step(m, at)
	if tell(got) != want || e != api.OK {
		t.Fatalf("P14.2: Step(%s, %d) = %s, %d, want %s, 0", tell(m), at, tell(got), e, want)
	}
	if !mach.May(got) {
		t.Fatalf("P14.2: Step(%s, %d) = %s, which may not be", tell(m), at, tell(got))
	}
	return got
}

// bothAre asks both of a session that stands at a CodeRead.
func bothAre(t *testing.T, m api.Machine, at int) {
	t.Helper()
	if needsIs(t, m, at) {
		stepIs(t, m, at)
		return
	}
	stepRefused(t, "nothing is needed", m, at)
}

func stepRefused(t *testing.T, what string, m api.Machine, at int) {
	t.Helper()
	if got, e := Step(m, at); !isZero(got) || e != driftForm {
		t.Fatalf("P14.2: %s: Step(.., %d) = %s, %d, want zero, 1400", what, at, tell(got), e)
	}
}

func bothRefused(t *testing.T, what string, m api.Machine, at int) {
	t.Helper()
	if got, e := Needs(m, at); got || e != driftForm {
		t.Fatalf("P14.1: %s: Needs(.., %d) = %v, %d, want false, 1400", what, at, got, e)
	}
	stepRefused(t, what, m, at)
}

func TestLimits(t *testing.T) {
	if api.MaxSessions != maxSessions || api.MaxTrace != maxTrace || api.MaxInsts != maxInsts || api.ErrDriftForm != driftForm || api.OK != 0 {
		t.Fatal("the limits of these tests are not those of package api")
	}
	if api.EventFloat != eventFloat || api.EventEnd != eventEnd || api.ResultClear != resultClear || api.StepRun != 0 || api.StepDone != 6 || api.CodeRead != 2 {
		t.Fatal("the numbers of these tests are not those of package api")
	}
	for at := range maxSessions {
		if !mach.May(needing(at)) || !mach.May(ending(at)) {
			t.Fatalf("the machines of these tests for session %d may not be", at)
		}
	}
}

// These are written out whole, the answers too.
func TestOrdinary(t *testing.T) {
	m := api.Machine{
		Words: [4][]api.Word{{{Value: 4, Lock: 6}}, {{Value: 5, Version: 2, Lock: 8}}, {{Value: 6}}}, Clocks: [4]int{0, 2, 0, 0}, Ceiling: 9,
		Sessions: []api.Session{{Id: 5, Reads: []api.Read{{}}, Stamp: 1}, {
			Id: 7, Label: 1, Clear: 3, Prog: []api.Inst{{Code: 2, A: 2, B: 1}, {Code: 2, A: 2, B: 2}}, Pc: 1, Regs: [4]int{0, 0, 5, 0},
			Reads: []api.Read{{Level: 1, Version: 2}}, Writes: []api.Write{{Level: 1, Value: 5}}, At: 1, Stamp: 3, Tries: 8, Result: 2, Told: 44,
		}},
		Trace: []api.Event{{Id: 7, Label: 1, Value: 5}},
	}
	ahead := " Clocks:[0 2 0 0] Ceiling:9 Sessions:[" +
		"{Id:5 Label:0 Clear:0 Prog:[] Step:0 Pc:0 Regs:[0 0 0 0] Reads:[{Level:0 Index:0 Version:0}] Writes:[] At:0 Stamp:1 Tries:0 Result:0 Told:0} {Id:7 "
	prog := "Prog:[{Code:2 A:2 B:1 C:0} {Code:2 A:2 B:2 C:0}] "
	behind := "] Trace:[{Id:7 Label:1 Kind:0 Value:5} "
	want := "{Words:[[{Value:4 Version:0 Lock:6}] [{Value:5 Version:2 Lock:8}] [{Value:6 Version:0 Lock:0}] []]" + ahead + "Label:3 Clear:3 " + prog +
		"Step:0 Pc:1 Regs:[0 0 5 0] Reads:[{Level:1 Index:0 Version:2}] Writes:[{Level:1 Index:0 Value:5}] At:1 Stamp:3 Tries:8 Result:2 Told:44}" +
		behind + "{Id:7 Label:1 Kind:2 Value:3}]}"
	if is, e := Needs(m, 1); !is || e != api.OK {
		t.Errorf("P14.1: Needs = %v, %d, want true, 0", is, e)
	}
	if got, e := Step(m, 1); tell(got) != want || e != api.OK {
		t.Errorf("P14.2: Step = %s, %d, want %s, 0", tell(got), e, want)
	}
	m.Sessions[1].Clear = 1
	want = "{Words:[[{Value:4 Version:0 Lock:6}] [{Value:5 Version:2 Lock:0}] [{Value:6 Version:0 Lock:0}] []]" + ahead + "Label:1 Clear:1 " + prog +
		"Step:6 Pc:1 Regs:[0 0 5 0] Reads:[] Writes:[] At:0 Stamp:0 Tries:8 Result:4 Told:0}" + behind + "{Id:7 Label:1 Kind:6 Value:4}]}"
	if got, e := Step(m, 1); tell(got) != want || e != api.OK {
		t.Errorf("P14.2: Step = %s, %d, want %s, 0", tell(got), e, want)
	}
	m.Sessions[1].Pc = 0
	if is, e := Needs(m, 1); is || e != api.OK {
		t.Errorf("P14.1: Needs = %v, %d, want false, 0", is, e)
	}
	stepRefused(t, "a label is below itself", m, 1)
}

// Each label, each clearance above it, each level read, among instructions that would tell otherwise, for the session at each place.
func TestEachLabelAndLevel(t *testing.T) {
	for at := range maxSessions {
		for _, pair := range pairs {
			for level := range 4 {
				for _, around := range arounds {
					for pc := range 3 {
						bothAre(t, put(sample.Machine(4), at, spot{pair[0], pair[1], level, pc, 3, around}), at)
					}
				}
			}
		}
	}
}

// A level that is not below the clearance is needed all the same.
func TestNeedsDoesNotHangOnClear(t *testing.T) {
	for _, label := range []int{0, 1, 2} {
		for level := range 4 {
			m := put(sample.Machine(1), 0, spot{label, label, level, 0, 1, api.Inst{}})
			if got, e := Needs(m, 0); got != notBelow(level, label) || e != api.OK {
				t.Errorf("P14.1: level %d, Label and Clear %d: %v, %d", level, label, got, e)
			}
		}
	}
}

// Pc at every instruction of programs of every length.
func TestEachPlaceOfAProgram(t *testing.T) {
	for n := 1; n <= maxInsts; n++ {
		for pc := range n {
			for at := range maxSessions {
				for _, around := range arounds {
					bothAre(t, put(sample.Machine(4), at, spot{1, 3, 2, pc, n, around}), at)
					bothAre(t, put(sample.Machine(4), at, spot{2, 2, 1, pc, n, around}), at)
					bothAre(t, put(sample.Machine(4), at, spot{3, 3, 3, pc, n, around}), at)
				}
			}
		}
	}
}

// Each session's place, of machines of each number of them; the others are as they begin, or not.
func TestEachPlace(t *testing.T) {
	for n := 1; n <= maxSessions; n++ {
		for at := range n {
			for _, clear := range []int{1, 3} {
				m := put(sample.Machine(n), at, spot{1, clear, 2, 1, 3, api.Inst{Code: 5}})
				bothAre(t, m, at)
				for other := range n {
					if other != at {
						m.Sessions[other] = api.Session{Id: sample.Id(other)}
						bothAre(t, m, at)
					}
				}
			}
		}
	}
}

func TestNoSuchSession(t *testing.T) {
	for n := range maxSessions + 1 {
		m := sample.Machine(n)
		for at := range n {
			put(m, at, spot{1, 3, 2, 1, 3, api.Inst{Code: 5}})
		}
		for _, at := range append([]int{n, n + 1, n + 256, 1<<32 + n, -n - 1}, far...) {
			bothRefused(t, fmt.Sprint("no session of ", n), m, at)
		}
	}
	bothRefused(t, "no session at all", api.Machine{}, 0)
	for at := range maxSessions {
		m := needing(at)
		m.Sessions = m.Sessions[:at]
		bothRefused(t, "a session in the room behind the others", m, at)
	}
}

// insts are one of each code but CodeRead, which name 3 where they name a number.
func insts(pc int) []api.Inst {
	return []api.Inst{{Code: 0, A: 3, B: 3}, {Code: 1, A: 3, B: 3}, {Code: 3, A: 3, B: 3, C: 3}, {Code: 4, A: 3, B: max(pc+1, 3)}, {Code: 5}, {Code: 6, A: 3}}
}

// Each code that is not CodeRead, at each place, among CodeReads that need something.
func TestOtherCodes(t *testing.T) {
	for at := range maxSessions {
		for _, n := range []int{3, 16} {
			for _, pc := range []int{0, 1, n / 2, n - 1} {
				for _, other := range insts(pc) {
					m := put(sample.Machine(4), at, spot{0, 3, 3, pc, n, api.Inst{Code: 2, B: 3}})
					bothAre(t, m, at)
					m.Sessions[at].Prog[pc] = other
					if !mach.May(m) {
						t.Fatalf("the machine with %+v may not be", other)
					}
					bothRefused(t, fmt.Sprintf("%+v stands there", other), m, at)
				}
			}
		}
	}
}

func TestOtherSteps(t *testing.T) {
	for at := range maxSessions {
		for step := 1; step <= 6; step++ {
			for _, m := range []api.Machine{needing(at), ending(at)} {
				m.Sessions[at].Step = step
				bothRefused(t, fmt.Sprint("Step ", step), m, at)
			}
		}
	}
}

func TestEndsOfPrograms(t *testing.T) {
	for at := range maxSessions {
		for n := range maxInsts + 1 {
			m := sample.Machine(4)
			s := &m.Sessions[at]
			s.Step, s.Prog, s.Pc, s.Label = 0, slices.Repeat([]api.Inst{{Code: 2, B: 3}}, n+1)[:n], n, 0
			if !mach.May(m) {
				t.Fatalf("the machine with a program of %d may not be", n)
			}
			bothRefused(t, fmt.Sprint("the end of a program of ", n), m, at)
			s.Step = 5
			bothRefused(t, fmt.Sprint("Step 5 at the end of a program of ", n), m, at)
		}
	}
}

// Wrong Step, wrong code, the program's end and no session, each two of them at once.
func TestSeveralAtOnce(t *testing.T) {
	for at := range maxSessions {
		for step := range 7 {
			for _, other := range insts(1) {
				m := needing(at)
				m.Sessions[at].Step = step
				m.Sessions[at].Prog[1] = other
				bothRefused(t, "wrong Step and code", m, at)
				m.Sessions[at].Pc = 3
				bothRefused(t, "wrong Step and end", m, at)
				m.Trace = trace(maxTrace)
				bothRefused(t, "wrong Step and end, and a full Trace", m, at)
				bothRefused(t, "wrong Step, no session", m, at+4)
				m.Clocks[3] = -1
				bothRefused(t, "wrong Step, and a machine that may not be", m, at)
			}
		}
	}
}

// Each fault alone and two at once, where all else would do, and where it would not.
func TestMachinesThatMayNotBe(t *testing.T) {
	for first, fault := range sample.Faults() {
		for second, other := range sample.Faults() {
			m := sample.Machine(4)
			for at := range m.Sessions {
				m.Sessions[at].Step, m.Sessions[at].Pc = 0, 0
			}
			fault(&m)
			if second != first {
				other(&m)
			}
			for at := -1; at <= maxSessions; at++ {
				bothRefused(t, fmt.Sprint("faults ", first, " and ", second), m, at)
			}
		}
	}
	for which, fault := range sample.SessionFaults() {
		for wrong := range maxSessions {
			m := sample.Machine(4)
			for at := range m.Sessions {
				m.Sessions[at].Step, m.Sessions[at].Pc = 0, 0
			}
			fault(&m.Sessions[wrong])
			for at := -1; at <= maxSessions; at++ {
				bothRefused(t, fmt.Sprint("session fault ", which, " in ", wrong), m, at)
			}
		}
	}
	for which, m := range sample.TooLong() {
		bothRefused(t, fmt.Sprint("list too long ", which), m, 0)
	}
}

// A label that may not be, or a clearance below it, is refused whatever is read.
func TestLabelsThatMayNotBe(t *testing.T) {
	for label := -2; label <= 5; label++ {
		for clear := -2; clear <= 5; clear++ {
			for level := range 4 {
				m := put(sample.Machine(4), 2, spot{label, clear, level, 0, 1, api.Inst{}})
				if slices.Contains(pairs, [2]int{label, clear}) {
					bothAre(t, m, 2)
				} else {
					bothRefused(t, fmt.Sprint("Label ", label, ", Clear ", clear), m, 2)
				}
			}
		}
	}
	for _, level := range []int{-1, 4, 7, 1 << 32} {
		bothRefused(t, fmt.Sprint("level ", level), put(sample.Machine(4), 2, spot{0, 3, level, 0, 1, api.Inst{}}), 2)
	}
}

// With room for one event there is one more, with none nothing is told, and all else is done.
func TestTraces(t *testing.T) {
	for _, n := range []int{0, 1, 2, 255, 256, 510, maxTrace - 1, maxTrace} {
		for at := range maxSessions {
			for _, m := range []api.Machine{needing(at), ending(at)} {
				m.Trace = trace(n)
				got := stepIs(t, m, at)
				if want := min(n+1, maxTrace); len(got.Trace) != want || !slices.Equal(got.Trace[:n], m.Trace) {
					t.Errorf("P14.2: behind %d events there are %d, want %d", n, len(got.Trace), want)
				}
			}
			m := needing(at)
			m.Trace = trace(n)
			if got := stepIs(t, m, at); got.Sessions[at].Label != 3 {
				t.Errorf("P14.2: behind %d events the Label is %d, want 3", n, got.Sessions[at].Label)
			}
		}
	}
}

// The event carries the label ahead of the rise, and the value is the label behind it.
func TestEventOfARise(t *testing.T) {
	for at := range maxSessions {
		for label := range 3 {
			for level := range 4 {
				if !notBelow(level, label) {
					continue
				}
				m := put(sample.Machine(4), at, spot{label, 3, level, 0, 1, api.Inst{}})
				got := stepIs(t, m, at)
				want := api.Event{Id: sample.Id(at), Label: label, Kind: eventFloat, Value: joins[label][level]}
				if last := got.Trace[len(got.Trace)-1]; last != want || got.Sessions[at].Label != want.Value || got.Sessions[at].Clear != 3 {
					t.Errorf("P14.2: %+v is told and the Label is %d, want %+v", last, got.Sessions[at].Label, want)
				}
			}
		}
	}
}

// What else the session has, whatever it is, stays as it is.
func TestNothingElseTurns(t *testing.T) {
	for at := range maxSessions {
		for _, n := range []int{0, 1, 254, 255} {
			m := needing(at)
			s := &m.Sessions[at]
			s.Regs, s.Told, s.Tries, s.Stamp, s.Result, s.At = [4]int{n, 255 - n, n, 7}, n, 257*n, 65535-257*n, n%6, n%4
			bothAre(t, m, at)
			s.Clear = 1
			bothAre(t, m, at)
			s.Reads, s.Writes, s.At = nil, []api.Write{}, 0
			bothAre(t, m, at)
			s.Clear = 3
			bothAre(t, m, at)
		}
		for n := range 17 {
			m := needing(at)
			s := &m.Sessions[at]
			s.Reads, s.Writes, s.At = nil, nil, n
			for word := range n {
				s.Reads = append(s.Reads, api.Read{Level: 3 - word/4, Index: word % 4, Version: word})
				s.Writes = append(s.Writes, api.Write{Level: word / 4, Index: word % 4, Value: word})
			}
			bothAre(t, m, at)
		}
	}
}

// Nothing is read: neither the lock nor the version nor the value of the word that is to be read tells.
func TestTheWordDoesNotTell(t *testing.T) {
	for at := range maxSessions {
		for lock := range 256 {
			m := needing(at)
			for index := range m.Words[2] {
				m.Words[2][index] = api.Word{Value: 255 - lock, Version: 257 * lock, Lock: lock}
			}
			bothAre(t, m, at)
			m.Sessions[at].Clear = 1
			bothAre(t, m, at)
		}
	}
}

// Where it may not rise, the answer is what layer 13 answers, and no label rises.
func TestBeyondTheClearance(t *testing.T) {
	for at := range maxSessions {
		for _, pair := range pairs {
			for level := range 4 {
				if !notBelow(joins[pair[0]][level], pair[1]) {
					continue
				}
				m := put(sample.Machine(4), at, spot{pair[0], pair[1], level, 1, 4, api.Inst{Code: 2}})
				got, e := Step(m, at)
				want, _ := undo.End(m, at, resultClear, 0)
				if tell(got) != tell(want) || e != api.OK {
					t.Fatalf("P14.2: Step = %s, %d, want %s, 0", tell(got), e, tell(want))
				}
				s := got.Sessions[at]
				last := got.Trace[len(got.Trace)-1]
				if s.Label != pair[0] || s.Clear != pair[1] || s.Step != 6 || s.Result != resultClear || s.Told != 0 || s.Pc != 1 {
					t.Fatalf("P14.2: the session ended as %+v", s)
				}
				if want := (api.Event{Id: s.Id, Label: pair[0], Kind: eventEnd, Value: resultClear}); last != want || len(got.Trace) != 3 {
					t.Fatalf("P14.2: the trace is %+v, want %+v last", got.Trace, want)
				}
				bothRefused(t, "a session that ended", got, at)
			}
		}
	}
}

// Behind a rise nothing is needed there any more.
func TestTwice(t *testing.T) {
	for at := range maxSessions {
		for label := range 3 {
			for level := range 4 {
				m := put(sample.Machine(4), at, spot{label, 3, level, 2, 3, api.Inst{Code: 2, B: 3}})
				if !notBelow(level, label) {
					continue
				}
				got := stepIs(t, m, at)
				if is, e := Needs(got, at); is || e != api.OK {
					t.Errorf("P14.1: Needs behind a rise is %v, %d, want false, 0", is, e)
				}
				stepRefused(t, "behind a rise", got, at)
			}
		}
	}
}

// One session rises behind another, each from its own label.
func TestOneBehindAnother(t *testing.T) {
	m := sample.Machine(4)
	for at := range maxSessions {
		put(m, at, spot{at, 3, 3 - at, 0, 1, api.Inst{}})
	}
	for _, at := range []int{2, 0, 1} {
		m = stepIs(t, m, at)
	}
	stepRefused(t, "nothing is needed", m, 3)
	for at, s := range m.Sessions {
		if s.Label != 3 {
			t.Errorf("P14.2: the Label at %d is %d, want 3", at, s.Label)
		}
	}
}

// calls are both, at each place and beyond; what Needs tells stands in a machine's Ceiling there.
func calls() map[string]sample.Call {
	all := map[string]sample.Call{}
	for at := -1; at <= maxSessions; at++ {
		all[fmt.Sprint("Step at ", at)] = func(m api.Machine) (api.Machine, api.Errno) { return Step(m, at) }
		all[fmt.Sprint("Needs at ", at)] = func(m api.Machine) (api.Machine, api.Errno) {
			told := api.Machine{}
			is, e := Needs(m, at)
			if is {
				told.Ceiling = 1
			}
			return told, e
		}
	}
	return all
}

// machines are some in which something is done, and some that are refused.
func machines() []api.Machine {
	all := []api.Machine{{}, sample.Machine(0), sample.Machine(4)}
	for at := range maxSessions {
		all = append(all, needing(at), ending(at))
	}
	for _, n := range []int{0, 511, 512, 513} {
		m := needing(1)
		m.Trace = trace(n)
		all = append(all, m)
	}
	for _, fault := range sample.Faults() {
		m := needing(2)
		fault(&m)
		all = append(all, m)
	}
	return all
}

func TestNothingIsTurnedOrShared(t *testing.T) {
	for which, m := range machines() {
		for what, call := range calls() {
			if broken := sample.Broken(m, call); broken != "" {
				t.Errorf("%s: %s of machine %d", broken, what, which)
			}
		}
	}
}

// One list that stands in a machine handed in several times stands in the answer as several.
func TestListsThatWereOne(t *testing.T) {
	ws := []api.Word{{Lock: 1}, {Lock: 2}, {Lock: 3}, {Lock: 4}}
	prog, reads, writes := []api.Inst{{Code: 2, B: 1}}, []api.Read{{}}, []api.Write{{}}
	for _, clear := range []int{0, 1} {
		m := api.Machine{Words: [4][]api.Word{ws, ws, ws, ws}}
		for at := range maxSessions {
			m.Sessions = append(m.Sessions, api.Session{Id: at, Clear: clear, Prog: prog, Reads: reads, Writes: writes})
		}
		for at := range maxSessions {
			if sample.Shared(stepIs(t, m, at)) {
				t.Errorf("R4: two lists of an answer are one")
			}
		}
	}
}

// No helper that ends the test is called here, as these are other goroutines than the test's.
func TestAnswersHangOnArgumentsAlone(t *testing.T) {
	var wg sync.WaitGroup
	for at := range maxSessions {
		for _, m := range []api.Machine{needing(at), ending(at)} {
			want := tell(wantStep(m, at))
			for range 4 {
				wg.Go(func() {
					for range 50 {
						if is, e := Needs(m, at); !is || e != api.OK {
							t.Errorf("R5: Needs = %v, %d, want true, 0", is, e)
						}
						if got, e := Step(m, at); tell(got) != want || e != api.OK {
							t.Errorf("R5: Step = %s, %d, want %s, 0", tell(got), e, want)
						}
					}
				})
			}
		}
	}
	wg.Wait()
}
