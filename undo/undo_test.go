package undo

import (
	"fmt"
	"math"
	"reflect"
	"slices"
	"strings"
	"sync"
	"testing"

	"veil/api"
	"veil/mach"
	"veil/sample"
)

// The limits are written out as numbers, so that they share no name with what they test.
const (
	maxSessions = 4
	maxClock    = 65535
	maxTrace    = 512
	conflict    = 3
	wake        = 5
	end         = 6
	steps       = 7
	results     = 6
	maxTold     = 255
	undoForm    = 1300
)

// far are wrong for whatever has limits: negative ones, ones whose low bits would do, and the ends of the number kinds.
var far = []int{
	-1, -2, -3, -4, -5, -255, -256, -65535, -65536, 65536, 1<<16 + 3, 1<<16 + 5, 1 << 31, 1 << 32, 1<<32 + 1, 1<<32 + 3, 1<<32 + 5, 1 << 62,
	math.MaxInt32, math.MaxUint32, math.MaxInt - 1, math.MaxInt, math.MinInt32, math.MinInt, math.MinInt + 1, math.MinInt + 3, math.MinInt + 5,
}

// tell is a machine whole, each field by its name; an empty list and nil are one there.
func tell(m api.Machine) string { return fmt.Sprintf("%+v", m) }

func isZero(m api.Machine) bool { return reflect.DeepEqual(m, api.Machine{}) }

// dropped is what both do first.
func dropped(m api.Machine, at int) (api.Machine, *api.Session) {
	m = sample.Copy(m)
	s := &m.Sessions[at]
	for _, list := range m.Words {
		for index := range list {
			if list[index].Lock-1 == s.Id {
				list[index].Lock = 0
			}
		}
	}
	s.Reads, s.Writes, s.At, s.Stamp = nil, nil, 0, 0
	return m, s
}

// noted is a machine with one event more, if there is room for it.
func noted(m api.Machine, s *api.Session, kind int, value int) api.Machine {
	if len(m.Trace) != maxTrace {
		m.Trace = append(m.Trace, api.Event{Id: s.Id, Label: s.Label, Kind: kind, Value: value})
	}
	return m
}

func wantAgain(m api.Machine, at int, kind int) api.Machine {
	m, s := dropped(m, at)
	s.Step, s.Pc, s.Regs = 0, 0, [4]int{0, 0, 0, 0}
	if s.Tries != maxClock {
		s.Tries++
	}
	return noted(m, s, kind, s.Tries)
}

func wantEnd(m api.Machine, at int, result int, told int) api.Machine {
	m, s := dropped(m, at)
	s.Step, s.Result, s.Told = 6, result, told
	return noted(m, s, end, result)
}

// againIs answers what Again does, if that is what it must be.
func againIs(t *testing.T, m api.Machine, at int, kind int) api.Machine {
	t.Helper()
	want := tell(wantAgain(m, at, kind))
	got, e := Again(m, at, kind)
	if tell(got) != want || e != api.OK {
		t.Fatalf("P13.1: Again(%s, %d, %d) = %s, %d, want %s, 0", tell(m), at, kind, tell(got), e, want)
	}
	if !mach.May(got) {
		t.Fatalf("P13.1: Again(%s, %d, %d) = %s, which may not be", tell(m), at, kind, tell(got))
	}
	return got
}

// endIs answers what End does, if that is what it must be.
func endIs(t *testing.T, m api.Machine, at int, result int, told int) api.Machine {
	t.Helper()
	want := tell(wantEnd(m, at, result, told))
	got, e := End(m, at, result, told)
	if tell(got) != want || e != api.OK {
		t.Fatalf("P13.2: End(%s, %d, %d, %d) = %s, %d, want %s, 0", tell(m), at, result, told, tell(got), e, want)
	}
	if !mach.May(got) {
		t.Fatalf("P13.2: End(%s, %d, %d, %d) = %s, which may not be", tell(m), at, result, told, tell(got))
	}
	return got
}

// bothAre asks both, in some of the ways in which they may be called.
func bothAre(t *testing.T, m api.Machine, at int) {
	t.Helper()
	againIs(t, m, at, conflict)
	againIs(t, m, at, wake)
	endIs(t, m, at, 0, 0)
	endIs(t, m, at, 5, 255)
}

func againRefused(t *testing.T, what string, m api.Machine, at int, kind int) {
	t.Helper()
	if got, e := Again(m, at, kind); !isZero(got) || e != undoForm {
		t.Fatalf("P13.1: %s: Again(.., %d, %d) = %s, %d, want zero, 1300", what, at, kind, tell(got), e)
	}
}

func endRefused(t *testing.T, what string, m api.Machine, at int, result int, told int) {
	t.Helper()
	if got, e := End(m, at, result, told); !isZero(got) || e != undoForm {
		t.Fatalf("P13.2: %s: End(.., %d, %d, %d) = %s, %d, want zero, 1300", what, at, result, told, tell(got), e)
	}
}

// bothRefused: what both ask is wrong, so they refuse whatever else they are told, be it wrong too or not.
func bothRefused(t *testing.T, what string, m api.Machine, at int) {
	t.Helper()
	for _, kind := range []int{conflict, wake, -1, 4, 7, math.MaxInt, math.MinInt} {
		againRefused(t, what, m, at, kind)
	}
	for _, result := range []int{0, 5, -1, 6, math.MaxInt, math.MinInt} {
		for _, told := range []int{0, 255, -1, 256, math.MaxInt, math.MinInt} {
			endRefused(t, what, m, at, result, told)
		}
	}
}

func TestLimits(t *testing.T) {
	if api.MaxSessions != maxSessions || api.MaxClock != maxClock || api.MaxTrace != maxTrace || api.MaxValue != maxTold || api.ErrUndoForm != undoForm || api.OK != 0 {
		t.Fatal("the numbers of these tests are not those of package api")
	}
	if api.EventConflict != conflict || api.EventWake != wake || api.EventEnd != end {
		t.Fatal("the events of these tests are not those of package api")
	}
	if api.StepRun != 0 || api.StepDone != steps-1 || api.ResultNone != 0 || api.ResultClock != results-1 {
		t.Fatal("the steps or results of these tests are not those of package api")
	}
	for n := range maxSessions + 1 {
		if !mach.May(sample.Machine(n)) {
			t.Fatalf("the machine of %d sessions of these tests may not be", n)
		}
	}
}

// These are written out whole, the answers too.
func TestOrdinary(t *testing.T) {
	m := api.Machine{
		Words: [4][]api.Word{{{Value: 4, Lock: 6}}, {{Value: 5, Version: 2, Lock: 8}, {Value: 6, Lock: 8}}}, Clocks: [4]int{0, 2, 0, 0}, Ceiling: 9,
		Sessions: []api.Session{{Id: 5, Reads: []api.Read{{}}, Stamp: 1}, {
			Id: 7, Label: 1, Clear: 3, Prog: []api.Inst{{Code: 2, A: 2, B: 1}, {Code: 3, A: 2, B: 1, C: 1}}, Step: 3, Pc: 2, Regs: [4]int{0, 0, 5, 0},
			Reads: []api.Read{{Level: 1, Version: 2}}, Writes: []api.Write{{Level: 1, Index: 1, Value: 5}}, At: 1, Stamp: 3, Tries: 8, Result: 2, Told: 44,
		}},
		Trace: []api.Event{{Id: 7, Label: 1, Value: 5}},
	}
	ahead := "{Words:[[{Value:4 Version:0 Lock:6}] [{Value:5 Version:2 Lock:0} {Value:6 Version:0 Lock:0}] [] []] Clocks:[0 2 0 0] Ceiling:9 Sessions:[" +
		"{Id:5 Label:0 Clear:0 Prog:[] Step:0 Pc:0 Regs:[0 0 0 0] Reads:[{Level:0 Index:0 Version:0}] Writes:[] At:0 Stamp:1 Tries:0 Result:0 Told:0} " +
		"{Id:7 Label:1 Clear:3 Prog:[{Code:2 A:2 B:1 C:0} {Code:3 A:2 B:1 C:1}] "
	behind := "] Trace:[{Id:7 Label:1 Kind:0 Value:5} "
	want := ahead + "Step:0 Pc:0 Regs:[0 0 0 0] Reads:[] Writes:[] At:0 Stamp:0 Tries:9 Result:2 Told:44}" + behind + "{Id:7 Label:1 Kind:3 Value:9}]}"
	if got, e := Again(m, 1, conflict); tell(got) != want || e != api.OK {
		t.Errorf("P13.1: Again = %s, %d, want %s, 0", tell(got), e, want)
	}
	want = strings.Replace(want, "Kind:3", "Kind:5", 1)
	if got, e := Again(m, 1, wake); tell(got) != want || e != api.OK {
		t.Errorf("P13.1: Again = %s, %d, want %s, 0", tell(got), e, want)
	}
	want = ahead + "Step:6 Pc:2 Regs:[0 0 5 0] Reads:[] Writes:[] At:0 Stamp:0 Tries:8 Result:4 Told:200}" + behind + "{Id:7 Label:1 Kind:6 Value:4}]}"
	if got, e := End(m, 1, 4, 200); tell(got) != want || e != api.OK {
		t.Errorf("P13.2: End = %s, %d, want %s, 0", tell(got), e, want)
	}
}

// Each session's place, of machines of each number of them, some of which are as they begin.
func TestEachPlace(t *testing.T) {
	for n := 1; n <= maxSessions; n++ {
		for at := range n {
			m := sample.Machine(n)
			bothAre(t, m, at)
			for other := range n {
				m.Sessions[other] = api.Session{Id: sample.Id(other)}
				bothAre(t, m, at)
			}
		}
	}
}

// Each fault alone and two at once, at places that are there and that are not.
func TestMachinesThatMayNotBe(t *testing.T) {
	places := []int{-1, 0, 1, 2, 3, 4, 5, math.MaxInt, math.MinInt}
	for first, fault := range sample.Faults() {
		for second, other := range sample.Faults() {
			m := sample.Machine(4)
			fault(&m)
			if second != first {
				other(&m)
			}
			for _, at := range places {
				bothRefused(t, fmt.Sprint("faults ", first, " and ", second), m, at)
			}
		}
	}
	for _, n := range []int{5, 6, 256, 260} {
		m := api.Machine{Sessions: make([]api.Session, n)}
		for at := range m.Sessions {
			m.Sessions[at].Id = at
		}
		for _, at := range append(places, n-1, n) {
			bothRefused(t, fmt.Sprint(n, " sessions"), m, at)
		}
	}
}

// Lists that are far too long are refused, too, wherever they stand.
func TestListsThatAreFarTooLong(t *testing.T) {
	for _, m := range sample.TooLong() {
		bothRefused(t, "a list that is far too long", m, 0)
	}
}

// A fault in a session, both that at the place asked for and another.
func TestSessionsThatMayNotBe(t *testing.T) {
	for which, fault := range sample.SessionFaults() {
		for wrong := range maxSessions {
			m := sample.Machine(4)
			fault(&m.Sessions[wrong])
			for at := -1; at <= maxSessions; at++ {
				bothRefused(t, fmt.Sprint("session fault ", which, " in ", wrong), m, at)
			}
		}
	}
}

func TestNoSuchSession(t *testing.T) {
	for n := range maxSessions + 1 {
		for _, at := range append([]int{n, n + 1, n + 3, n + 4, n + 256, 1<<32 + n, -n - 1}, far...) {
			bothRefused(t, fmt.Sprint("no session of ", n), sample.Machine(n), at)
		}
	}
	bothRefused(t, "no session at all", api.Machine{}, 0)
	m := sample.Machine(2)
	m.Sessions = sample.Machine(4).Sessions[:2]
	bothRefused(t, "a session in the room behind the others", m, 2)
	bothRefused(t, "a session in the room behind the others", m, 3)
	m = sample.Machine(2)
	m.Trace = sample.Trace(maxTrace)
	bothRefused(t, "no such session, and a full Trace", m, 2)
}

func TestAgainOfEachKind(t *testing.T) {
	for at := range maxSessions {
		for kind := -300; kind <= 300; kind++ {
			m := sample.Machine(4)
			if kind == conflict || kind == wake {
				againIs(t, m, at, kind)
			} else {
				againRefused(t, "no such kind", m, at, kind)
			}
		}
		for _, kind := range far {
			againRefused(t, "no such kind", sample.Machine(4), at, kind)
		}
	}
	m := sample.Machine(4)
	m.Trace = sample.Trace(maxTrace)
	for _, kind := range []int{-1, 0, 1, 2, 4, 6, 7} {
		againRefused(t, "no such kind, and a full Trace", m, 1, kind)
	}
}

// Each result beside each number told, from beyond one end of both to beyond the other.
func TestEndOfEachResultAndNumber(t *testing.T) {
	for result := -3; result <= results+2; result++ {
		for told := -3; told <= maxTold+3; told++ {
			m, at := sample.Machine(4), (result+told+6)%maxSessions
			if result >= 0 && result < results && told >= 0 && told <= maxTold {
				endIs(t, m, at, result, told)
			} else {
				endRefused(t, "no such result or number", m, at, result, told)
			}
		}
	}
	for _, n := range append([]int{256, 257, 300, 511, 512, 65535}, far...) {
		for at := range maxSessions {
			m := sample.Machine(4)
			endRefused(t, "no such result", m, at, n, 7)
			endRefused(t, "no such number", m, at, 2, n)
			endRefused(t, "no such result, no such number", m, at, n, n)
			m.Trace = sample.Trace(maxTrace)
			endRefused(t, "no such result, and a full Trace", m, at, n, 7)
			endRefused(t, "no such number, and a full Trace", m, at, 2, n)
		}
	}
}

// Every step, at every place of the program, with every result, for the session at each place.
func TestEachStepAndResult(t *testing.T) {
	for at := range maxSessions {
		for step := range steps {
			for result := range results {
				for pc := range 7 {
					m := sample.Machine(4)
					s := &m.Sessions[at]
					s.Step, s.Result, s.Pc, s.Told = step, result, pc, 40*result
					bothAre(t, m, at)
				}
			}
		}
	}
}

// One number after the other in each field that is written over, or stays.
func TestEachField(t *testing.T) {
	for at := range maxSessions {
		for _, n := range []int{0, 1, 2, 3, 127, 128, 254, 255} {
			for which := range 4 {
				m := sample.Machine(4)
				m.Sessions[at].Regs[which] = n
				bothAre(t, m, at)
				m.Sessions[at].Regs = [4]int{n, n, n, n}
				bothAre(t, m, at)
			}
			m := sample.Machine(4)
			m.Sessions[at].Told = n
			bothAre(t, m, at)
		}
		for _, n := range []int{0, 1, 255, 256, 65534, 65535} {
			m := sample.Machine(4)
			m.Sessions[at].Stamp = n
			bothAre(t, m, at)
		}
		for n := range 4 {
			m := sample.Machine(4)
			m.Sessions[at].At = n
			bothAre(t, m, at)
		}
	}
}

// None, some, and as many as there may be of each list of a session's; empty lists and nil are one.
func TestEachListOfASession(t *testing.T) {
	for at := range maxSessions {
		for n := range 17 {
			m := sample.Machine(4)
			s := &m.Sessions[at]
			s.Prog, s.Reads, s.Writes, s.At = slices.Repeat([]api.Inst{{Code: 5}}, n), []api.Read{}, []api.Write{}, n
			s.Pc = n
			for word := range n {
				s.Reads = append(s.Reads, api.Read{Level: 3 - word/4, Index: word % 4, Version: word})
				s.Writes = append(s.Writes, api.Write{Level: word / 4, Index: word % 4, Value: word})
			}
			bothAre(t, m, at)
			bothAre(t, m, (at+1)%maxSessions)
		}
		m := sample.Machine(4)
		s := &m.Sessions[at]
		s.Prog, s.Reads, s.Writes, s.At, s.Pc = nil, nil, nil, 0, 0
		bothAre(t, m, at)
	}
}

// The label, also where it has risen to the clearance, is told, and stays.
func TestEachLabel(t *testing.T) {
	for _, pair := range [][2]int{{0, 0}, {0, 1}, {0, 2}, {0, 3}, {1, 1}, {1, 3}, {2, 2}, {2, 3}, {3, 3}} {
		for at := range maxSessions {
			m := sample.Machine(4)
			m.Sessions[at].Label, m.Sessions[at].Clear = pair[0], pair[1]
			bothAre(t, m, at)
			bothAre(t, m, (at+1)%maxSessions)
		}
	}
}

// The event tells the number of tries behind the one that ends here, up to the most of them.
func TestTries(t *testing.T) {
	for at := range maxSessions {
		for _, tries := range []int{0, 1, 2, 3, 254, 255, 256, 257, 65533, maxClock - 1, maxClock} {
			m := sample.Machine(4)
			m.Sessions[at].Tries = tries
			bothAre(t, m, at)
			got, _ := Again(m, at, wake)
			last := got.Trace[len(got.Trace)-1]
			if want := min(tries+1, maxClock); got.Sessions[at].Tries != want || last.Value != want {
				t.Errorf("P13.1: %d tries are %d then, and %d is told, want %d", tries, got.Sessions[at].Tries, last.Value, want)
			}
		}
	}
	m := api.Machine{Sessions: []api.Session{{Tries: maxClock - 3}}}
	for range 6 {
		m = againIs(t, m, 0, conflict)
	}
	if m.Sessions[0].Tries != maxClock {
		t.Errorf("P13.1: Tries is %d behind six more, want %d", m.Sessions[0].Tries, maxClock)
	}
}

// Each word alone, with locks of those that are there, of those beside them, and of others, for the session at each place.
func TestEachLockAtEachWord(t *testing.T) {
	for level := range 4 {
		for index := range 4 {
			for _, lock := range []int{0, 1, 2, 3, 8, 39, 40, 41, 42, 128, 253, 254, 255} {
				m := sample.Machine(4)
				for l, list := range m.Words {
					for i := range list {
						list[i].Lock = 0
						if l == level && i == index {
							list[i].Lock = lock
						}
					}
				}
				for at := range maxSessions {
					againIs(t, m, at, conflict+2*(lock%2))
					endIs(t, m, at, lock%results, lock)
				}
			}
		}
	}
}

// All words are locked by one: by the session itself, by one whose Id is the next to its own, by nobody that is there.
func TestOneLockAtAllWords(t *testing.T) {
	for id := range 255 {
		for _, lock := range []int{max(id-1, 0), id, id + 1, min(id+2, 255)} {
			m := api.Machine{Sessions: []api.Session{{Id: id}}}
			for level := range m.Words {
				m.Words[level] = slices.Repeat([]api.Word{{Value: 200, Version: 300, Lock: lock}}, 4-level)
			}
			got := againIs(t, m, 0, wake)
			ended := endIs(t, m, 0, 3, 0)
			free := lock == 0 || lock == id+1
			if (got.Words[0][3].Lock == 0) != free || (ended.Words[3][0].Lock == 0) != free {
				t.Fatalf("P13.1: a word of lock %d is free behind Id %d: want %v", lock, id, free)
			}
		}
	}
}

// The words named in Writes, and how far they were locked, do not tell which words are free then: the locks do.
func TestLocksDoNotHangOnWrites(t *testing.T) {
	for at := range maxSessions {
		m := sample.Machine(4)
		m.Sessions[at].Writes, m.Sessions[at].At = nil, 0
		bothAre(t, m, at)
		m.Sessions[at].Writes, m.Sessions[at].At = []api.Write{{Index: 3}, {Level: 2, Index: 3}}, 0
		bothAre(t, m, at)
		m.Sessions[at].At = 2
		bothAre(t, m, at)
	}
}

// With a full Trace nothing is told, whatever the room behind it, and all else is done.
func TestTraces(t *testing.T) {
	for _, n := range []int{0, 1, 2, 255, 256, 510, maxTrace - 1, maxTrace} {
		for at := range maxSessions {
			m := sample.Machine(4)
			m.Trace = sample.Trace(maxTrace + 9)[:n]
			bothAre(t, m, at)
			got, _ := Again(m, at, conflict)
			ended, _ := End(m, at, 1, 0)
			if want := min(n+1, maxTrace); len(got.Trace) != want || len(ended.Trace) != want {
				t.Errorf("P13.1: behind %d events there are %d and %d, want %d", n, len(got.Trace), len(ended.Trace), want)
			}
		}
	}
}

// Over and over, by whichever session: each call turns just what it turns of a machine that was there first.
func TestTwice(t *testing.T) {
	for at := range maxSessions {
		for other := range maxSessions {
			first := againIs(t, sample.Machine(4), at, conflict)
			bothAre(t, first, other)
			bothAre(t, againIs(t, first, other, wake), at)
			ended := endIs(t, sample.Machine(4), at, 4, 9)
			bothAre(t, ended, other)
			bothAre(t, endIs(t, ended, other, 4, 9), at)
		}
	}
}

// All that turns when it is done a second time is named here.
func TestTwiceTurnsNoMore(t *testing.T) {
	for at := range maxSessions {
		once, _ := Again(sample.Machine(4), at, conflict)
		twice, _ := Again(once, at, conflict)
		want := sample.Copy(once)
		want.Sessions[at].Tries++
		want.Trace = append(want.Trace, api.Event{Id: sample.Id(at), Label: 1, Kind: conflict, Value: 22 + at})
		if tell(twice) != tell(want) {
			t.Errorf("P13.1: Again twice is %s, want %s", tell(twice), tell(want))
		}
		once, _ = End(sample.Machine(4), at, 2, 77)
		twice, _ = End(once, at, 2, 77)
		want = sample.Copy(once)
		want.Trace = append(want.Trace, api.Event{Id: sample.Id(at), Label: 1, Kind: end, Value: 2})
		if tell(twice) != tell(want) {
			t.Errorf("P13.2: End twice is %s, want %s", tell(twice), tell(want))
		}
	}
}

// calls are some of the ways of calling both: at each place, beyond them, and with what is refused.
func calls() map[string]sample.Call {
	all := map[string]sample.Call{}
	for at := -1; at <= maxSessions; at++ {
		for _, kind := range []int{conflict, wake, 4} {
			all[fmt.Sprint("Again ", at, ", ", kind)] = func(m api.Machine) (api.Machine, api.Errno) { return Again(m, at, kind) }
		}
		for _, result := range []int{0, 5, 6} {
			all[fmt.Sprint("End ", at, ", ", result)] = func(m api.Machine) (api.Machine, api.Errno) { return End(m, at, result, 8) }
		}
	}
	return all
}

// machines are some that may be, and some that may not.
func machines() []api.Machine {
	all := []api.Machine{{}}
	for n := range maxSessions + 1 {
		all = append(all, sample.Machine(n))
	}
	for _, n := range []int{0, 1, 511, 512, 513} {
		m := sample.Machine(3)
		m.Trace = sample.Trace(n)
		all = append(all, m)
	}
	for _, fault := range sample.Faults() {
		m := sample.Machine(4)
		fault(&m)
		all = append(all, m)
	}
	for which, fault := range sample.SessionFaults() {
		m := sample.Machine(4)
		fault(&m.Sessions[which%maxSessions])
		all = append(all, m)
	}
	return all
}

func TestNothingIsTurnedOrShared(t *testing.T) {
	for which, m := range machines() {
		for what, call := range calls() {
			if broken := sample.Broken(m, call); broken != "" {
				t.Errorf("%s: %s of machine %d", broken, what, which)
			}
		}
	}
}

// One list that stands in a machine handed in several times stands in the answer as several.
func TestListsThatWereOne(t *testing.T) {
	m := api.Machine{Sessions: []api.Session{{Id: 0}, {Id: 1}, {Id: 2}, {Id: 3}}}
	ws := []api.Word{{Lock: 1}, {Lock: 2}, {Lock: 3}, {Lock: 4}}
	m.Words = [4][]api.Word{ws, ws, ws, ws}
	for at := range m.Sessions {
		first := &m.Sessions[0]
		first.Prog, first.Reads, first.Writes = []api.Inst{{Code: 2}}, []api.Read{{}}, []api.Write{{}}
		s := &m.Sessions[at]
		s.Prog, s.Reads, s.Writes = first.Prog, first.Reads, first.Writes
	}
	for at := range m.Sessions {
		bothAre(t, m, at)
		got, _ := Again(m, at, wake)
		ended, _ := End(m, at, 1, 2)
		if sample.Shared(got, ended) {
			t.Errorf("R4: two lists of answers are one")
		}
	}
}

// What is answered of another machine in between tells in no answer.
func TestCallsDoNotHangOnOthers(t *testing.T) {
	list := machines()
	for _, m := range list {
		for what, call := range calls() {
			first, e := call(m)
			for _, other := range list[:8] {
				call(other)
			}
			if second, again := call(m); tell(first) != tell(second) || e != again {
				t.Fatalf("R5: %s: answered %s, %d, then %s, %d", what, tell(first), e, tell(second), again)
			}
		}
	}
}

// No helper that ends the test is called here, as these are other goroutines than the test's.
func TestAnswersHangOnArgumentsAlone(t *testing.T) {
	var wg sync.WaitGroup
	m := sample.Machine(4)
	for at := range maxSessions {
		again, ended := tell(wantAgain(m, at, wake)), tell(wantEnd(m, at, 2, at))
		for range 4 {
			wg.Go(func() {
				for range 50 {
					if got, e := Again(m, at, wake); tell(got) != again || e != api.OK {
						t.Errorf("R5: Again = %s, %d, want %s, 0", tell(got), e, again)
					}
					if got, e := End(m, at, 2, at); tell(got) != ended || e != api.OK {
						t.Errorf("R5: End = %s, %d, want %s, 0", tell(got), e, ended)
					}
				}
			})
		}
	}
	wg.Wait()
}
