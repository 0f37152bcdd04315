package sample

import (
	"fmt"
	"reflect"
	"slices"
	"sync"
	"testing"

	"veil/api"
	"veil/mach"
)

func tell(m api.Machine) string { return fmt.Sprintf("%+v", m) }

func TestMachinesMayBe(t *testing.T) {
	for n := range 5 {
		m := Machine(n)
		for at := range n {
			if m.Sessions[at].Id != Id(at) {
				t.Errorf("the Id at %d is %d, want %d", at, m.Sessions[at].Id, Id(at))
			}
		}
		if len(m.Sessions) != n || !mach.May(m) || !mach.May(Roomy(m)) || !mach.May(Copy(m)) {
			t.Errorf("the machine of %d sessions may not be", n)
		}
	}
	for _, n := range []int{0, 1, 511, 512} {
		m := Machine(2)
		if m.Trace = Trace(n); len(m.Trace) != n || !mach.May(m) {
			t.Errorf("the machine of %d events may not be", n)
		}
	}
}

func TestFaultsBreak(t *testing.T) {
	for which, fault := range Faults() {
		m := Machine(4)
		if fault(&m); mach.May(m) {
			t.Errorf("fault %d breaks nothing", which)
		}
	}
	for which, fault := range SessionFaults() {
		for at := range 4 {
			m := Machine(4)
			if fault(&m.Sessions[at]); mach.May(m) {
				t.Errorf("session fault %d breaks nothing at %d", which, at)
			}
		}
	}
	for which, m := range TooLong() {
		if mach.May(m) {
			t.Errorf("machine %d with a list too long may be", which)
		}
	}
}

func TestCopies(t *testing.T) {
	for n := range 5 {
		m := Machine(n)
		if tell(Copy(m)) != tell(m) || tell(Roomy(m)) != tell(m) {
			t.Errorf("a copy of %s is %s, or %s", tell(m), tell(Copy(m)), tell(Roomy(m)))
		}
		if Shared(m, Copy(m), Roomy(m), Roomy(m)) {
			t.Error("copies share lists")
		}
	}
	if m := Copy(Roomy(Machine(3))); cap(m.Sessions) != 3 || cap(m.Sessions[2].Prog) != 6 || cap(m.Words[3]) != 4 || cap(m.Trace) != 2 {
		t.Error("a copy has room behind its lists")
	}
	if m := Roomy(Machine(3)); cap(m.Sessions) != 5 || cap(m.Sessions[2].Reads) != 4 || cap(m.Sessions[0].Writes) != 5 || cap(m.Words[3]) != 6 || cap(m.Trace) != 4 {
		t.Error("a roomy machine has no room behind its lists")
	}
}

// ints counts what numbers must find in the lists of a value.
func ints(v reflect.Value, inList bool) int {
	n := 0
	switch v.Kind() {
	case reflect.Int:
		if inList {
			n = 1
		}
	case reflect.Slice:
		for at := range v.Cap() {
			n += ints(v.Slice(0, v.Cap()).Index(at), true)
		}
	case reflect.Array:
		for at := range v.Len() {
			n += ints(v.Index(at), inList)
		}
	case reflect.Struct:
		for at := range v.NumField() {
			n += ints(v.Field(at), inList)
		}
	}
	return n
}

func TestNumbersAreAll(t *testing.T) {
	for _, m := range []api.Machine{{}, Machine(1), Machine(4), Roomy(Machine(0)), Roomy(Machine(4))} {
		if got, want := len(numbers(m)), ints(reflect.ValueOf(m), false); got != want {
			t.Errorf("there are %d numbers in lists, want %d", got, want)
		}
	}
	m := Roomy(Machine(4))
	before := row(m)
	for _, n := range numbers(m) {
		old := *n
		*n = -99
		if same := fmt.Sprint(row(m)) == fmt.Sprint(before); same {
			t.Error("a row does not tell a number")
		}
		*n = old
	}
}

func TestShared(t *testing.T) {
	m, other := Machine(2), Machine(2)
	if Shared(m, other) || Shared() || Shared(m) {
		t.Error("machines that share nothing are told to share")
	}
	if !Shared(m, m) {
		t.Error("a machine does not share with itself")
	}
	other.Sessions[1].Reads = m.Sessions[0].Reads
	if !Shared(m, other) || Shared(other) {
		t.Error("a list of two machines is not told")
	}
	m.Words[2] = m.Words[0]
	if !Shared(m) {
		t.Error("a list at two places is not told")
	}
	m = Machine(2)
	m.Words[3] = m.Words[1][2:]
	if !Shared(m) {
		t.Error("a part of a list is not told")
	}
}

// kept is what a call that keeps its argument kept.
var kept api.Machine

func TestBroken(t *testing.T) {
	turns := 0
	for what, call := range map[string]Call{
		"turns what is handed in": func(m api.Machine) (api.Machine, api.Errno) { m.Sessions[1].Regs[2]++; return Copy(m), 0 },
		"turns the room":          func(m api.Machine) (api.Machine, api.Errno) { _ = append(m.Trace, api.Event{}); return Copy(m), 0 },
		"answers the same lists":  func(m api.Machine) (api.Machine, api.Errno) { return m, 0 },
		"shares one list": func(m api.Machine) (api.Machine, api.Errno) {
			next := Copy(m)
			next.Sessions[0].Writes = m.Sessions[0].Writes
			return next, 0
		},
		"shares within an answer": func(m api.Machine) (api.Machine, api.Errno) {
			next := Copy(m)
			next.Words[1] = next.Words[0]
			return next, 0
		},
		"counts its calls": func(m api.Machine) (api.Machine, api.Errno) {
			turns++
			return api.Machine{Ceiling: turns}, 0
		},
		"counts its errors": func(m api.Machine) (api.Machine, api.Errno) { turns++; return api.Machine{}, api.Errno(turns) },
		"keeps what is handed in": func(m api.Machine) (api.Machine, api.Errno) {
			if len(kept.Words[0]) == 0 {
				kept = m
			}
			return api.Machine{Ceiling: kept.Words[0][0].Value}, 0
		},
	} {
		if Broken(Machine(2), call) == "" {
			t.Errorf("a call that %s is told to break nothing", what)
		}
	}
	m := Machine(2)
	if what := Broken(m, func(m api.Machine) (api.Machine, api.Errno) { return Copy(m), 0 }); what != "" {
		t.Errorf("a call that answers a copy is told to break %s", what)
	}
	if what := Broken(m, func(api.Machine) (api.Machine, api.Errno) { return api.Machine{}, 7 }); what != "" {
		t.Errorf("a call that refuses is told to break %s", what)
	}
	if tell(m) != tell(Machine(2)) {
		t.Errorf("the machine asked of is %s then", tell(m))
	}
}

func TestAnyBroken(t *testing.T) {
	var ceilings [2]int
	var lock sync.Mutex
	turn := func(m api.Machine) int {
		lock.Lock()
		defer lock.Unlock()
		ceilings = [2]int{ceilings[1], m.Ceiling}
		return ceilings[0]
	}
	ms := []api.Machine{Machine(0), Machine(2), {Ceiling: 7}, Machine(4)}
	for what, call := range map[string]Call{
		"breaks a rule of one of them": func(m api.Machine) (api.Machine, api.Errno) {
			if len(m.Sessions) == 4 {
				return m, 0
			}
			return Copy(m), 0
		},
		"answers of the one before":  func(m api.Machine) (api.Machine, api.Errno) { return api.Machine{Ceiling: turn(m)}, 0 },
		"refuses for the one before": func(m api.Machine) (api.Machine, api.Errno) { return api.Machine{}, api.Errno(turn(m)) },
	} {
		if AnyBroken(ms, call) == "" {
			t.Errorf("a call that %s is told to break nothing", what)
		}
	}
	if what := AnyBroken(ms, func(m api.Machine) (api.Machine, api.Errno) { return Copy(m), 0 }); what != "" {
		t.Errorf("a call that answers a copy is told to break %s", what)
	}
	if what := AnyBroken(nil, func(m api.Machine) (api.Machine, api.Errno) { return m, 0 }); what != "" {
		t.Errorf("a call that is asked of nothing is told to break %s", what)
	}
}

// A call that answers each of them as it must, but another thing where all of them are asked again, or where several goroutines ask.
func TestAnyBrokenByTurns(t *testing.T) {
	ms := []api.Machine{{Ceiling: 1}, {Ceiling: 2}}
	for _, from := range []int{8, 10} {
		var lock sync.Mutex
		calls := 0
		what := AnyBroken(ms, func(m api.Machine) (api.Machine, api.Errno) {
			lock.Lock()
			defer lock.Unlock()
			if calls++; calls > from {
				return api.Machine{}, 0
			}
			return Copy(m), 0
		})
		if what == "" {
			t.Errorf("a call that answers another thing behind %d calls is told to break nothing", from)
		}
	}
}

// A step that breaks a rule at one place, or next to the places, alone.
func TestAnyBrokenAt(t *testing.T) {
	ms := []api.Machine{Machine(0), Machine(3)}
	for wrong := -2; wrong <= 5; wrong++ {
		what := AnyBrokenAt(ms, func(m api.Machine, at int) (api.Machine, api.Errno) {
			if at == wrong {
				return m, 0
			}
			return Copy(m), 0
		})
		if got, want := what != "", wrong >= -1 && wrong <= 4; got != want {
			t.Errorf("a step that breaks a rule at %d is told to break %q", wrong, what)
		}
	}
}

// ready sets a session at its CodeWrite.
func ready(s *api.Session) { s.Step, s.Pc = 0, 1 }

func TestNoSession(t *testing.T) {
	seen := map[int]int{}
	for _, w := range NoSession(ready) {
		n := len(w.Machine.Sessions)
		if !mach.May(w.Machine) || w.At >= 0 && w.At < n {
			t.Errorf("%s: at %d of %s", w.What, w.At, tell(w.Machine))
		}
		for _, s := range w.Machine.Sessions {
			if s.Step != 0 || s.Pc != 1 {
				t.Errorf("%s: %+v is not ready", w.What, s)
			}
		}
		if w.At == n || w.At == -1 {
			seen[n]++
		}
	}
	for n := range 5 {
		if seen[n] < 2 {
			t.Errorf("the places next to those of %d sessions are not told", n)
		}
	}
}

func TestMayNotBe(t *testing.T) {
	list := MayNotBe(ready)
	for _, w := range list {
		if mach.May(w.Machine) {
			t.Errorf("%s: %s may be", w.What, tell(w.Machine))
		}
	}
	faults := len(Faults())
	if want := 6 * (faults*faults + 4*len(SessionFaults()) + len(TooLong())); len(list) != want {
		t.Errorf("there are %d machines that may not be, want %d", len(list), want)
	}
}

// Each code but CodeZero, whose instruction does not stand anywhere, and several at once.
func TestNotAt(t *testing.T) {
	for _, codes := range [][]int{{0}, {1}, {2}, {3}, {5}, {6}, {0, 1, 4}} {
		seen := map[[2]int]int{}
		for _, w := range NotAt(api.Inst{Code: codes[0]}, codes...) {
			s := w.Machine.Sessions[w.At]
			code := -1
			if s.Pc < len(s.Prog) {
				code = s.Prog[s.Pc].Code
			}
			if s.Step == 0 && slices.Contains(codes, code) || !mach.May(w.Machine) {
				t.Errorf("codes %v: %s: at %d of %s", codes, w.What, w.At, tell(w.Machine))
			}
			seen[[2]int{s.Step, code}]++
		}
		if want := 7*(8-len(codes)) + 6; len(seen) != want {
			t.Errorf("codes %v: %d of steps and codes are told, want %d: %v", codes, len(seen), want, seen)
		}
	}
}

// Each turn alone, and each two, once at each place, the one ahead in the row first.
func TestSeveral(t *testing.T) {
	would := func(at int) api.Machine { return api.Machine{Ceiling: 1, Sessions: []api.Session{{Id: at}}} }
	turn := func(by int) func(m *api.Machine, at int) {
		return func(m *api.Machine, at int) { m.Ceiling = 10*m.Ceiling + by; m.Sessions[0].Told += at }
	}
	ceilings := []int{12, 123, 13, 124, 134, 14}
	list := Several(would, turn(2), turn(3), turn(4))
	if len(list) != 4*len(ceilings) {
		t.Fatalf("there are %d, want %d", len(list), 4*len(ceilings))
	}
	for which, w := range list {
		at, ceiling := which/len(ceilings), ceilings[which%len(ceilings)]
		turns := 1
		if ceiling > 100 {
			turns = 2
		}
		if s := w.Machine.Sessions[0]; w.At != at || s.Id != at || w.Machine.Ceiling != ceiling || s.Told != turns*at {
			t.Errorf("%d is %s at %d, want %d at %d", which, tell(w.Machine), w.At, ceiling, at)
		}
	}
}

// Each number of a machine tells, in its lists and in none, and how long these are; nil and room do not.
func TestSame(t *testing.T) {
	m := Machine(3)
	if !Same(m, Copy(m)) || !Same(Roomy(m), m) || !Same(api.Machine{}, api.Machine{Sessions: []api.Session{}, Trace: []api.Event{}}) {
		t.Error("what is the same is told not to be")
	}
	for which := range numbers(Copy(m)) {
		other := Copy(m)
		*numbers(other)[which]++
		if Same(m, other) || Same(other, m) {
			t.Errorf("with number %d turned it is told to be the same", which)
		}
	}
	for which, turn := range []func(m *api.Machine){
		func(m *api.Machine) { m.Clocks[3]++ },
		func(m *api.Machine) { m.Ceiling++ },
		func(m *api.Machine) { m.Words[2] = m.Words[2][:3] },
		func(m *api.Machine) { m.Words[0], m.Words[1] = m.Words[0][:3], append(m.Words[0][3:4], m.Words[1]...) },
		func(m *api.Machine) { m.Sessions = m.Sessions[:2] },
		func(m *api.Machine) { m.Sessions[1].Writes = nil },
		func(m *api.Machine) { m.Trace = nil },
	} {
		other := Copy(m)
		if turn(&other); Same(m, other) {
			t.Errorf("with turn %d it is told to be the same", which)
		}
	}
}
