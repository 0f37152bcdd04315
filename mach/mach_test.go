package mach

import (
	"fmt"
	"math"
	"reflect"
	"slices"
	"sync"
	"testing"

	"veil/api"
)

// The limits are written out as numbers, so that they share no name with what they test.
const (
	maxSessions = 4
	maxInsts    = 16
	maxClock    = 65535
	maxTrace    = 512
	events      = 7
	machForm    = 1200
)

// far are wrong in every field that has limits: negative ones, ones whose low bits would do, and the ends of the number kinds.
var far = []int{
	-1, -2, -4, -255, -256, -65535, -65536, 65536, 65537, 131071, 1 << 31, 1 << 32, 1<<32 + 1, 1 << 62,
	math.MaxInt32, math.MaxUint32, math.MaxInt - 1, math.MaxInt, math.MinInt32, math.MinInt, math.MinInt + 1,
}

// beyond are what lies beyond a limit, and far ones.
func beyond(most int) []int {
	return append([]int{most + 1, most + 2, most + 256, most + 1<<32}, far...)
}

// sizes: level 2 has no word, and the others have each another number of them.
var sizes = [4]int{4, 2, 0, 3}

func laidWords() [4][]api.Word {
	var ws [4][]api.Word
	for level, n := range sizes {
		for index := range n {
			ws[level] = append(ws[level], api.Word{Value: 60*level + index, Version: 100*level + 7*index, Lock: 3 * index})
		}
	}
	return ws
}

// laidSession has a number of its own in each field; those of other places have others.
func laidSession(at int) api.Session {
	return api.Session{
		Id: 40 * (at + 1), Label: 1, Clear: 3,
		Prog: []api.Inst{
			{Code: 2, A: 1, B: 3, C: 2}, {Code: 3, A: at, B: 1, C: 1}, {Code: 4, A: 2, B: 4}, {Code: 0, B: 200 + at}, {Code: 1, A: 3, B: 2}, {Code: 6, A: at},
		},
		Step: at + 1, Pc: at + 2, Regs: [4]int{at, 9, 255, 4},
		Reads:  []api.Read{{Level: 3, Index: at % 3, Version: 5 + at}, {Level: 0, Index: at, Version: 65535}},
		Writes: []api.Write{{Level: 0, Index: 1, Value: at}, {Level: 1, Index: 0, Value: 77}, {Level: 3, Index: 2, Value: 255}},
		At:     at % 4, Stamp: 300 + at, Tries: 20 + at, Result: at + 1, Told: 120 + at,
	}
}

// laid is a machine that may be, of so many sessions, with something in each of its lists; it is made anew at each call.
func laid(sessions int) api.Machine {
	m := api.Machine{
		Words: laidWords(), Clocks: [4]int{5, 0, 1000, 37}, Ceiling: 1000,
		Trace: []api.Event{{Id: 3, Label: 2, Kind: 4, Value: -6}, {Id: 900, Label: 3, Kind: 70, Value: 8}},
	}
	for at := range sessions {
		m.Sessions = append(m.Sessions, laidSession(at))
	}
	return m
}

// trace is of n events, no two of which are the same.
func trace(n int) []api.Event {
	var es []api.Event
	for at := range n {
		es = append(es, api.Event{Id: at, Label: at % 4, Kind: at % events, Value: 1000 - at})
	}
	return es
}

// told is a machine whole, each field by its name; an empty list and nil are one there.
func told(m api.Machine) string { return fmt.Sprintf("%+v", m) }

func isZero(m api.Machine) bool { return reflect.DeepEqual(m, api.Machine{}) }

// mayBe: Tell takes it, too, if there is a session to tell of.
func mayBe(t *testing.T, what string, m api.Machine) {
	t.Helper()
	if !May(m) {
		t.Fatalf("P12.1: %s: May(%s) is false", what, told(m))
	}
	for at := range m.Sessions {
		if _, e := Tell(m, at, 6, 0); e != api.OK {
			t.Fatalf("P12.2: %s: Tell(%s, %d, 6, 0): %d, want 0", what, told(m), at, e)
		}
	}
}

// mayNotBe: Tell refuses it, too, of each session, of one that is not there, and by a kind that is none.
func mayNotBe(t *testing.T, what string, m api.Machine) {
	t.Helper()
	if May(m) {
		t.Fatalf("P12.1: %s: May(%s) is true", what, told(m))
	}
	for at := range min(len(m.Sessions), 6) + 1 {
		tellRefused(t, what, m, at, 0)
	}
	tellRefused(t, what, m, -1, 3)
	tellRefused(t, what, m, 0, events)
}

func tellRefused(t *testing.T, what string, m api.Machine, at int, kind int) {
	t.Helper()
	if got, e := Tell(m, at, kind, 5); !isZero(got) || e != machForm {
		t.Fatalf("P12.2: %s: Tell(.., %d, %d, 5) = %s, %d, want zero, 1200", what, at, kind, told(got), e)
	}
}

func TestLimits(t *testing.T) {
	if api.MaxSessions != maxSessions || api.MaxInsts != maxInsts || api.MaxClock != maxClock || api.MaxTrace != maxTrace || api.ErrMachForm != machForm || api.OK != 0 {
		t.Fatal("the numbers of these tests are not those of package api")
	}
	if api.StepRun != 0 || api.StepDone != 6 || api.ResultNone != 0 || api.ResultClock != 5 || api.EventRead != 0 || api.EventEnd != 6 {
		t.Fatal("the steps, results or events of these tests are not those of package api")
	}
}

// These are written out whole.
func TestOrdinaryMachines(t *testing.T) {
	mayBe(t, "none", api.Machine{})
	mayBe(t, "ordinary", laid(4))
	mayBe(t, "one word, read and written", api.Machine{
		Words: [4][]api.Word{nil, {{Value: 5, Version: 2, Lock: 8}}}, Clocks: [4]int{0, 2, 0, 0}, Ceiling: 2,
		Sessions: []api.Session{{
			Id: 7, Label: 1, Clear: 1, Prog: []api.Inst{{Code: 2, B: 1}, {Code: 3, B: 1}}, Step: 3, Pc: 2,
			Reads: []api.Read{{Level: 1, Version: 2}}, Writes: []api.Write{{Level: 1, Value: 5}}, At: 1, Stamp: 3,
		}},
		Trace: []api.Event{{Id: 7, Label: 1, Value: 5}, {Id: 7, Label: 1, Kind: 1, Value: 5}},
	})
	mayNotBe(t, "a word that is not there", api.Machine{Sessions: []api.Session{{Prog: []api.Inst{{Code: 2}}}}})
	mayNotBe(t, "a clock beyond the ceiling", api.Machine{Clocks: [4]int{0, 0, 1, 0}})
}

// An empty list and nil are one, in each of a machine's lists.
func TestEmptyLists(t *testing.T) {
	m := api.Machine{Trace: []api.Event{}, Sessions: []api.Session{{Prog: []api.Inst{}, Reads: []api.Read{}, Writes: []api.Write{}}}}
	for level := range m.Words {
		m.Words[level] = []api.Word{}
	}
	mayBe(t, "empty lists", m)
	m.Sessions = []api.Session{}
	mayBe(t, "no session", m)
}

func TestEachNumberOfSessions(t *testing.T) {
	for n := range maxSessions + 1 {
		mayBe(t, fmt.Sprint(n, " sessions"), laid(n))
	}
	for _, n := range []int{5, 6, 8, 254, 255, 256, 257, 260, 1 << 16} {
		m := api.Machine{Sessions: make([]api.Session, n)}
		for at := range m.Sessions {
			m.Sessions[at].Id = at
		}
		mayNotBe(t, fmt.Sprint(n, " sessions"), m)
		m.Sessions = m.Sessions[:4]
		mayBe(t, "4 sessions, others in the room behind them", m)
	}
}

// Every row of Ids out of some, up to the most sessions: just those that rise may be.
func TestIdsRise(t *testing.T) {
	ids := []int{-1, 0, 1, 2, 253, 254, 255}
	for n := 2; n <= maxSessions; n++ {
		for row := range int(math.Pow(float64(len(ids)), float64(n))) {
			m := laid(n)
			may := true
			for at := range n {
				m.Sessions[at].Id = ids[row%len(ids)]
				row /= len(ids)
				may = may && m.Sessions[at].Id >= 0 && m.Sessions[at].Id <= 254 && (at == 0 || m.Sessions[at].Id > m.Sessions[at-1].Id)
			}
			if May(m) != may {
				t.Fatalf("P12.1: May of Ids that rise is %v: %s", !may, told(m))
			}
		}
	}
}

// The same Id twice, or a lower one behind, at each place of a row that rises but for that.
func TestOneIdThatDoesNotRise(t *testing.T) {
	for n := 2; n <= maxSessions; n++ {
		for at := 1; at < n; at++ {
			for _, down := range []int{0, 1, 39, 40} {
				m := laid(n)
				m.Sessions[at].Id = m.Sessions[at-1].Id - down
				mayNotBe(t, fmt.Sprint("Id ", at, " is ", down, " below the one ahead"), m)
			}
			m := laid(n)
			m.Sessions[at].Id = m.Sessions[at-1].Id + 1
			mayBe(t, fmt.Sprint("Id ", at, " is the next one"), m)
		}
	}
}

// A word's fields beyond their limits, at each place of each level; and too many words at each level.
func TestWordsThatMayNotBe(t *testing.T) {
	bad := func(w api.Word, what string) {
		for level, n := range sizes {
			for index := range n {
				m := laid(4)
				m.Words[level][index] = w
				mayNotBe(t, fmt.Sprint(what, " at ", level, ", ", index), m)
			}
		}
	}
	for _, x := range beyond(255) {
		bad(api.Word{Value: x}, "Value")
		bad(api.Word{Lock: x}, "Lock")
	}
	for _, x := range beyond(maxClock) {
		bad(api.Word{Version: x}, "Version")
	}
	for level := range sizes {
		for n := 5; n < 20; n++ {
			m := laid(2)
			m.Words[level] = make([]api.Word, n)
			mayNotBe(t, fmt.Sprint(n, " words at ", level), m)
		}
		m := laid(2)
		m.Words[level] = []api.Word{{Value: 255, Version: 65535, Lock: 255}, {}, {Value: 1}, {Lock: 1}}
		mayBe(t, fmt.Sprint("four words at ", level), m)
	}
}

func TestCeilingAndClocks(t *testing.T) {
	for _, ceiling := range []int{0, 1, 2, 255, 65534, maxClock} {
		m := laid(2)
		m.Ceiling, m.Clocks = ceiling, [4]int{}
		mayBe(t, "clocks 0", m)
		m.Clocks = [4]int{ceiling, ceiling, ceiling, ceiling}
		mayBe(t, "clocks at the ceiling", m)
		for level := range 4 {
			for _, c := range []int{0, ceiling / 2, ceiling} {
				m.Clocks = [4]int{}
				m.Clocks[level] = c
				mayBe(t, "a clock up to the ceiling", m)
			}
			for _, c := range beyond(ceiling) {
				m.Clocks = [4]int{}
				m.Clocks[level] = c
				if c < 0 || c > ceiling {
					mayNotBe(t, "a clock beyond the ceiling", m)
				}
			}
		}
	}
	for _, ceiling := range beyond(maxClock) {
		for _, c := range []int{0, 1, ceiling, ceiling - 1} {
			mayNotBe(t, "a ceiling that may not be", api.Machine{Ceiling: ceiling, Clocks: [4]int{c, c, c, c}})
		}
	}
}

// turn is one thing about a session.
type turn struct {
	what string
	make func(s *api.Session)
}

// numbers are the turns that put each of these into one field.
func numbers(what string, of func(s *api.Session) *int, ns []int) []turn {
	var all []turn
	for _, n := range ns {
		all = append(all, turn{fmt.Sprint(what, " ", n), func(s *api.Session) { *of(s) = n }})
	}
	return all
}

// field is one of a session's with limits of its own, and the greatest number that it may be.
type field struct {
	what string
	of   func(s *api.Session) *int
	most int
}

func fields() []field {
	return []field{
		{"Id", func(s *api.Session) *int { return &s.Id }, 254},
		{"Step", func(s *api.Session) *int { return &s.Step }, 6},
		{"Pc", func(s *api.Session) *int { return &s.Pc }, 6},
		{"register 0", func(s *api.Session) *int { return &s.Regs[0] }, 255},
		{"register 1", func(s *api.Session) *int { return &s.Regs[1] }, 255},
		{"register 2", func(s *api.Session) *int { return &s.Regs[2] }, 255},
		{"register 3", func(s *api.Session) *int { return &s.Regs[3] }, 255},
		{"At", func(s *api.Session) *int { return &s.At }, 3},
		{"Stamp", func(s *api.Session) *int { return &s.Stamp }, maxClock},
		{"Tries", func(s *api.Session) *int { return &s.Tries }, maxClock},
		{"Result", func(s *api.Session) *int { return &s.Result }, 5},
		{"Told", func(s *api.Session) *int { return &s.Told }, 255},
	}
}

func goodTurns() []turn {
	var all []turn
	for _, f := range fields()[1:] { // Ids hang on one another
		all = append(all, numbers(f.what, f.of, []int{0, 1, 2, f.most / 2, f.most - 1, f.most})...)
	}
	return append(all,
		turn{"labels 0, 0", func(s *api.Session) { s.Label, s.Clear = 0, 0 }},
		turn{"labels 2, 3", func(s *api.Session) { s.Label, s.Clear = 2, 3 }},
		turn{"labels 3, 3", func(s *api.Session) { s.Label = 3 }},
		turn{"no Prog", func(s *api.Session) { s.Prog, s.Pc = nil, 0 }},
		turn{"no Reads", func(s *api.Session) { s.Reads = nil }},
		turn{"no Writes", func(s *api.Session) { s.Writes, s.At = nil, 0 }},
		turn{"a word read that is of another Version", func(s *api.Session) { s.Reads[0].Version = 9999 }},
		turn{"At where fewer Writes end", func(s *api.Session) { s.Writes, s.At = s.Writes[:1], 1 }},
		turn{"16 instructions", func(s *api.Session) { s.Prog, s.Pc = slices.Repeat([]api.Inst{{Code: 2, C: 3}}, 16), 16 }},
	)
}

func badTurns() []turn {
	var all []turn
	for _, f := range fields() {
		all = append(all, numbers(f.what, f.of, beyond(f.most))...)
	}
	for _, x := range beyond(3) {
		all = append(all,
			turn{fmt.Sprint("Label ", x), func(s *api.Session) { s.Label = x }},
			turn{fmt.Sprint("Clear ", x), func(s *api.Session) { s.Clear = x }},
			turn{fmt.Sprint("both labels ", x), func(s *api.Session) { s.Label, s.Clear = x, x }})
	}
	return slices.Concat(all, badLabels(), badProgs(), badReads(), badWrites())
}

func badLabels() []turn {
	var all []turn
	for _, pair := range [][2]int{{1, 0}, {1, 2}, {2, 0}, {2, 1}, {3, 0}, {3, 1}, {3, 2}} {
		all = append(all, turn{fmt.Sprint("labels ", pair), func(s *api.Session) { s.Label, s.Clear = pair[0], pair[1] }})
	}
	return all
}

func badProgs() []turn {
	all := []turn{
		{"17 instructions", func(s *api.Session) { s.Prog = slices.Repeat([]api.Inst{{Code: 5}}, 17) }},
		{"CodeZero that goes back", func(s *api.Session) { s.Prog[3] = api.Inst{Code: 4, B: 3} }},
		{"CodeZero beyond the end", func(s *api.Session) { s.Prog[3] = api.Inst{Code: 4, B: 7} }},
		{"Pc where a longer program's end was", func(s *api.Session) { s.Prog = s.Prog[:3]; s.Pc = 4 }},
	}
	for _, i := range []api.Inst{
		{Code: 7}, {Code: -1}, {A: 4}, {B: 256}, {C: 1}, {Code: 1, B: 4}, {Code: 5, A: 1}, {Code: 6, A: 256},
		{Code: 2, A: 4}, {Code: 2, B: 4}, {Code: 2, B: -1}, {Code: 2, C: 4}, {Code: 2, C: -1}, {Code: 2, B: math.MaxInt}, {Code: 2, C: math.MinInt},
		{Code: 3, A: -1}, {Code: 3, B: 4}, {Code: 3, B: -1}, {Code: 3, C: 4}, {Code: 3, C: -1}, {Code: 3, B: math.MinInt}, {Code: 3, C: math.MaxInt},
	} {
		for at := range 6 {
			all = append(all, turn{fmt.Sprint(i, " at ", at), func(s *api.Session) { s.Prog[at] = i }})
		}
	}
	return all
}

func badReads() []turn {
	all := []turn{
		{"one word twice among Reads", func(s *api.Session) { s.Reads[1] = s.Reads[0] }},
		{"17 Reads", func(s *api.Session) { s.Reads = make([]api.Read, 17) }},
		{"a great many Reads", func(s *api.Session) { s.Reads = make([]api.Read, 1<<16) }},
	}
	for at := range 2 {
		for _, x := range beyond(3) {
			all = append(all, turn{fmt.Sprint("Reads ", at, ": Level ", x), func(s *api.Session) { s.Reads[at].Level = x }})
			all = append(all, turn{fmt.Sprint("Reads ", at, ": Index ", x), func(s *api.Session) { s.Reads[at].Index = x }})
		}
		for _, x := range beyond(maxClock) {
			all = append(all, turn{fmt.Sprint("Reads ", at, ": Version ", x), func(s *api.Session) { s.Reads[at].Version = x }})
		}
	}
	return all
}

func badWrites() []turn {
	all := []turn{
		{"one word twice among Writes", func(s *api.Session) { s.Writes[1] = s.Writes[0] }},
		{"Writes whose Level falls", func(s *api.Session) { s.Writes[0], s.Writes[1] = s.Writes[1], s.Writes[0] }},
		{"Writes whose Index falls", func(s *api.Session) { s.Writes[1] = api.Write{} }},
		{"17 Writes", func(s *api.Session) { s.Writes = make([]api.Write, 17) }},
		{"a great many Writes", func(s *api.Session) { s.Writes = make([]api.Write, 1<<16) }},
		{"At where more Writes ended", func(s *api.Session) { s.Writes = s.Writes[:1]; s.At = 2 }},
	}
	for at := range 3 {
		for _, x := range beyond(3) {
			all = append(all, turn{fmt.Sprint("Writes ", at, ": Level ", x), func(s *api.Session) { s.Writes[at].Level = x }})
			all = append(all, turn{fmt.Sprint("Writes ", at, ": Index ", x), func(s *api.Session) { s.Writes[at].Index = x }})
		}
		for _, x := range beyond(255) {
			all = append(all, turn{fmt.Sprint("Writes ", at, ": Value ", x), func(s *api.Session) { s.Writes[at].Value = x }})
		}
	}
	return all
}

// Each turn alone, in the session at each place of machines of each number of them.
func TestASessionAtEachPlace(t *testing.T) {
	for n := 1; n <= maxSessions; n++ {
		for at := range n {
			for _, one := range goodTurns() {
				m := laid(n)
				one.make(&m.Sessions[at])
				mayBe(t, fmt.Sprint("session ", at, ": ", one.what), m)
			}
			for _, one := range badTurns() {
				m := laid(n)
				one.make(&m.Sessions[at])
				mayNotBe(t, fmt.Sprint("session ", at, ": ", one.what), m)
			}
		}
	}
}

// Pc goes up to how many instructions, At up to how many Writes there are, not how many there might be.
func TestPcAndAtHangOnTheirLists(t *testing.T) {
	for many := range maxInsts + 1 {
		for pc := -2; pc <= maxInsts+2; pc++ {
			m := api.Machine{Sessions: []api.Session{{Prog: slices.Repeat([]api.Inst{{Code: 5}}, many), Pc: pc}}}
			if May(m) != (pc >= 0 && pc <= many) {
				t.Errorf("P12.1: Pc %d of %d instructions: May is %v", pc, many, May(m))
			}
		}
	}
	var all []api.Write
	for n := range 16 {
		all = append(all, api.Write{Level: n / 4, Index: n % 4})
	}
	for many := range len(all) + 1 {
		for at := -2; at <= maxInsts+2; at++ {
			m := api.Machine{Sessions: []api.Session{{Writes: all[:many], At: at}}}
			for level := range m.Words {
				m.Words[level] = make([]api.Word, 4)
			}
			if May(m) != (at >= 0 && at <= many) {
				t.Errorf("P12.1: At %d of %d Writes: May is %v", at, many, May(m))
			}
		}
	}
}

// Each word that there might be, named by Prog, Reads or Writes alone, at each place of its list, by the session at each place.
func TestWordsThatAreNotThere(t *testing.T) {
	for n := range 16 {
		level, index := n/4, n%4
		namings := []turn{
			{"first of Reads", func(s *api.Session) { s.Reads = []api.Read{{Level: level, Index: index}} }},
			{"last of Reads", func(s *api.Session) {
				s.Reads = slices.DeleteFunc([]api.Read{{Index: 0}, {Level: 1}}, func(r api.Read) bool { return r.Level == level && r.Index == index })
				s.Reads = append(s.Reads, api.Read{Level: level, Index: index})
			}},
			{"alone in Writes", func(s *api.Session) { s.Writes, s.At = []api.Write{{Level: level, Index: index}}, 0 }},
			{"last of Writes", func(s *api.Session) {
				s.Writes, s.At = []api.Write{{Index: 0}, {Level: level, Index: index}}, 0
				if n == 0 {
					s.Writes = s.Writes[1:]
				}
			}},
			{"first of Writes", func(s *api.Session) {
				s.Writes, s.At = []api.Write{{Level: level, Index: index}, {Level: 3, Index: 2}}, 0
				if n >= 14 {
					s.Writes = s.Writes[:1]
				}
			}},
		}
		for at := range 6 {
			namings = append(namings,
				turn{fmt.Sprint("CodeRead at ", at), func(s *api.Session) { s.Prog[at] = api.Inst{Code: 2, B: level, C: index} }},
				turn{fmt.Sprint("CodeWrite at ", at), func(s *api.Session) { s.Prog[at] = api.Inst{Code: 3, A: 3, B: level, C: index} }})
		}
		for place := range maxSessions {
			for _, one := range namings {
				m := laid(maxSessions)
				one.make(&m.Sessions[place])
				what := fmt.Sprint("session ", place, " names ", level, ", ", index, ": ", one.what)
				if index < sizes[level] {
					mayBe(t, what, m)
				} else {
					mayNotBe(t, what, m)
				}
			}
		}
	}
}

// What lies in the room behind a level's words is no word of it.
func TestWordsInSpareRoomAreNotThere(t *testing.T) {
	for level := range 4 {
		m := api.Machine{Sessions: []api.Session{{Prog: []api.Inst{{Code: 2, B: level, C: 2}}}}}
		m.Words[level] = make([]api.Word, 4)[:2]
		mayNotBe(t, "a word in the room", m)
		m.Words[level] = make([]api.Word, 3)
		mayBe(t, "a word that is there", m)
	}
}

// Instructions of other codes name no word, whatever their A and B are.
func TestOtherCodesNameNoWord(t *testing.T) {
	for a := range 4 {
		for b := range 4 {
			m := api.Machine{Sessions: []api.Session{{Prog: []api.Inst{
				{Code: 4, A: a, B: 1 + b}, {Code: 0, A: a, B: b}, {Code: 0, A: a, B: 255}, {Code: 1, A: a, B: b}, {Code: 5}, {Code: 6, A: 200 + a},
			}}}}
			mayBe(t, "no word at all", m)
		}
	}
}

// A session's Label, Clear and Reads do not hang on one another, nor its Step on all else.
func TestStepsAndResultsStandAlone(t *testing.T) {
	for step := range 7 {
		for result := range 6 {
			for _, pc := range []int{0, 6} {
				for label := range 4 {
					m := laid(2)
					s := &m.Sessions[1]
					s.Step, s.Result, s.Pc, s.Label = step, result, pc, label
					mayBe(t, "a step and a result", m)
				}
			}
		}
	}
}

func TestTraces(t *testing.T) {
	m := laid(2)
	for _, n := range []int{0, 1, 2, 255, 256, 257, 511, 512} {
		m.Trace = trace(n)
		mayBe(t, fmt.Sprint(n, " events"), m)
	}
	for _, n := range []int{513, 514, 767, 768, 1024, 65536, 66048, 1 << 20} {
		m.Trace = make([]api.Event, n)
		mayNotBe(t, fmt.Sprint(n, " events"), m)
		m.Trace = m.Trace[:512]
		mayBe(t, "512 events, others in the room behind them", m)
	}
}

// An event's Label alone is asked: its Id, kind and value are what they are.
func TestEvents(t *testing.T) {
	m := laid(2)
	for at := range maxTrace {
		m.Trace = trace(maxTrace)
		for _, x := range []int{-1, 4, math.MaxInt, math.MinInt, 1 << 32} {
			m.Trace[at].Label = x
			if got, e := Tell(m, 0, 0, 0); May(m) || !isZero(got) || e != machForm {
				t.Fatalf("P12.1: event %d's Label is %d: %d", at, x, e)
			}
		}
	}
	for _, x := range beyond(255) {
		for label := range 4 {
			m.Trace = []api.Event{{Id: x, Label: label, Kind: x, Value: x}}
			mayBe(t, "numbers of any size", m)
		}
		m.Trace = []api.Event{{Label: x}}
		mayNotBe(t, "a Label that may not be", m)
	}
}

// faults are one thing each that must not be, each in a field that no other one turns.
func faults() []func(m *api.Machine) {
	return []func(m *api.Machine){
		func(m *api.Machine) { m.Words[1] = make([]api.Word, 5) },
		func(m *api.Machine) { m.Words[3][2].Lock = 256 },
		func(m *api.Machine) { m.Ceiling = 65536 },
		func(m *api.Machine) { m.Clocks[0] = -1 },
		func(m *api.Machine) { m.Clocks[2] = 65537 },
		func(m *api.Machine) { m.Trace = make([]api.Event, 513) },
		func(m *api.Machine) { m.Sessions[2].Id = 80 },
		func(m *api.Machine) { m.Sessions[3].Id = 255 },
		func(m *api.Machine) { m.Sessions[0].Label = 4 },
		func(m *api.Machine) { m.Sessions[3].Clear = 2 },
		func(m *api.Machine) { m.Sessions[0].Prog = slices.Repeat([]api.Inst{{Code: 7}}, 6) },
		func(m *api.Machine) { m.Sessions[1].Prog = slices.Repeat([]api.Inst{{Code: 2, B: 2}}, 6) },
		func(m *api.Machine) { m.Sessions[2].Reads = []api.Read{{Level: 2}} },
		func(m *api.Machine) { m.Sessions[3].Reads = []api.Read{{Level: 4}} },
		func(m *api.Machine) { m.Sessions[0].Writes = []api.Write{{}, {Value: 1}, {Value: 2}} },
		func(m *api.Machine) { m.Sessions[3].Writes = []api.Write{{Level: 1}, {Level: 2}, {Level: 3}} },
		func(m *api.Machine) { m.Sessions[1].Step = 7 },
		func(m *api.Machine) { m.Sessions[2].Pc = 7 },
		func(m *api.Machine) { m.Sessions[0].Regs[3] = 256 },
		func(m *api.Machine) { m.Sessions[1].At = -1 },
		func(m *api.Machine) { m.Sessions[2].At = 4 },
		func(m *api.Machine) { m.Sessions[3].Stamp = 65536 },
		func(m *api.Machine) { m.Sessions[0].Tries = -1 },
		func(m *api.Machine) { m.Sessions[1].Result = 6 },
		func(m *api.Machine) { m.Sessions[2].Told = 256 },
	}
}

// Each fault alone, each two of them, and all but each one: none makes up for another.
func TestSeveralAtOnce(t *testing.T) {
	all := faults()
	for first := range all {
		for second := range all {
			m := laid(4)
			all[first](&m)
			all[second](&m)
			mayNotBe(t, fmt.Sprint("faults ", first, " and ", second), m)
		}
		m := laid(4)
		for at, fault := range all {
			if at != first {
				fault(&m)
			}
		}
		mayNotBe(t, fmt.Sprint("all faults but ", first), m)
	}
}

// script is one that New takes, of so many Starts, with words, Starts and Slots; it is made anew at each call.
func script(starts int) api.Script {
	s := api.Script{
		Words: [4][]int{{1, 0, 255, 7}, {9, 8}, nil, {200, 100, 50}}, Ceiling: 1000,
		Slots: []api.Slot{{Level: 1, Pick: 3}, {Level: 2, Pick: 1}},
	}
	for at := range starts {
		one := laidSession(at)
		s.Starts = append(s.Starts, api.Start{Id: one.Id, Label: one.Label, Clear: one.Clear, Prog: one.Prog})
	}
	return s
}

// newIs asks the answer's fields one by one: words of Version 0, free; sessions as they begin; all else zero.
func newIs(t *testing.T, what string, s api.Script) {
	t.Helper()
	got, e := New(s)
	if e != api.OK || !May(got) {
		t.Fatalf("P12.1: %s: New(%+v): %d, and May of its answer is %v", what, s, e, May(got))
	}
	want := api.Machine{Ceiling: s.Ceiling}
	for level, vs := range s.Words {
		for _, v := range vs {
			want.Words[level] = append(want.Words[level], api.Word{Value: v})
		}
	}
	for _, b := range s.Starts {
		want.Sessions = append(want.Sessions, api.Session{Id: b.Id, Label: b.Label, Clear: b.Clear, Prog: b.Prog})
	}
	if told(got) != told(want) {
		t.Fatalf("P12.1: %s: New(%+v) = %s, want %s", what, s, told(got), told(want))
	}
	if got.Trace != nil {
		t.Fatalf("R2: %s: New's Trace is %v, want nil", what, got.Trace)
	}
}

func newRefused(t *testing.T, what string, s api.Script) {
	t.Helper()
	if got, e := New(s); !isZero(got) || e != machForm {
		t.Fatalf("P12.1: %s: New(%+v) = %s, %d, want zero, 1200", what, s, told(got), e)
	}
}

// This is written out whole, the answer too.
func TestNewOrdinary(t *testing.T) {
	got, e := New(api.Script{
		Words: [4][]int{{5}, nil, nil, {6, 7}}, Ceiling: 9, Slots: []api.Slot{{Level: 1, Pick: 2}},
		Starts: []api.Start{{Id: 3, Label: 1, Clear: 3, Prog: []api.Inst{{Code: 2, B: 3, C: 1}}}, {Id: 4}},
	})
	want := "{Words:[[{Value:5 Version:0 Lock:0}] [] [] [{Value:6 Version:0 Lock:0} {Value:7 Version:0 Lock:0}]] Clocks:[0 0 0 0] Ceiling:9 Sessions:[" +
		"{Id:3 Label:1 Clear:3 Prog:[{Code:2 A:0 B:3 C:1}] Step:0 Pc:0 Regs:[0 0 0 0] Reads:[] Writes:[] At:0 Stamp:0 Tries:0 Result:0 Told:0} " +
		"{Id:4 Label:0 Clear:0 Prog:[] Step:0 Pc:0 Regs:[0 0 0 0] Reads:[] Writes:[] At:0 Stamp:0 Tries:0 Result:0 Told:0}] Trace:[]}"
	if told(got) != want || e != api.OK {
		t.Errorf("P12.1: New = %s, %d, want %s, 0", told(got), e, want)
	}
	newIs(t, "nothing", api.Script{})
	newIs(t, "ordinary", script(4))
	newRefused(t, "a word that is not there", api.Script{Starts: []api.Start{{Prog: []api.Inst{{Code: 3, B: 1}}}}})
}

// Slots are no part of a machine: ones that may not be are not asked, however many they are.
func TestNewDoesNotAskSlots(t *testing.T) {
	for _, slots := range [][]api.Slot{nil, {}, {{Level: 77, Pick: -5}}, make([]api.Slot, 257), make([]api.Slot, 1000)} {
		s := script(2)
		s.Slots = slots
		newIs(t, "slots", s)
	}
}

func TestNewOfWords(t *testing.T) {
	for level := range 4 {
		for n := range 5 {
			s := api.Script{}
			s.Words[level] = []int{0, 255, 3, 128}[:n]
			newIs(t, fmt.Sprint(n, " words at ", level), s)
		}
		for _, n := range []int{5, 6, 8, 16, 256, 260, 1 << 16} {
			s := api.Script{}
			s.Words[level] = make([]int, n)
			newRefused(t, fmt.Sprint(n, " words at ", level), s)
		}
		for index := range sizes[level] {
			for _, x := range beyond(255) {
				s := script(3)
				s.Words[level][index] = x
				newRefused(t, fmt.Sprint("a value at ", level), s)
			}
		}
	}
}

func TestNewOfCeilings(t *testing.T) {
	for _, ceiling := range []int{0, 1, 255, 65534, maxClock} {
		s := script(2)
		s.Ceiling = ceiling
		newIs(t, "a ceiling", s)
	}
	for _, ceiling := range beyond(maxClock) {
		s := script(2)
		s.Ceiling = ceiling
		newRefused(t, "a ceiling", s)
		newRefused(t, "a ceiling alone", api.Script{Ceiling: ceiling})
	}
}

// Each number of Starts; more of them are refused, whether each alone may be or not.
func TestNewOfEachNumberOfStarts(t *testing.T) {
	for n := range maxSessions + 1 {
		newIs(t, fmt.Sprint(n, " Starts"), script(n))
	}
	for _, n := range []int{5, 6, 8, 255, 256, 260} {
		s := api.Script{Starts: make([]api.Start, n)}
		for at := range s.Starts {
			s.Starts[at].Id = at
		}
		newRefused(t, fmt.Sprint(n, " Starts"), s)
		s.Starts = s.Starts[:4]
		newIs(t, "4 Starts, others in the room behind them", s)
	}
	newRefused(t, "a great many Starts", api.Script{Starts: make([]api.Start, 1<<18)})
}

// A Start that may not be, at each place: layer 11 refuses it, though the Ids of the others rise.
func TestNewOfStartsThatMayNotBe(t *testing.T) {
	bad := []func(s *api.Start){
		func(s *api.Start) { s.Id = -1 },
		func(s *api.Start) { s.Id = 255 },
		func(s *api.Start) { s.Label, s.Clear = 1, 2 },
		func(s *api.Start) { s.Label = -1 },
		func(s *api.Start) { s.Label, s.Clear = 4, 4 },
		func(s *api.Start) { s.Clear = 7 },
		func(s *api.Start) { s.Prog = []api.Inst{{Code: 7}} },
		func(s *api.Start) { s.Prog = []api.Inst{{Code: 4}} },
		func(s *api.Start) { s.Prog = make([]api.Inst, 17) },
		func(s *api.Start) { s.Prog = []api.Inst{{Code: 2, B: 4}} },
	}
	for n := 1; n <= maxSessions; n++ {
		for at := range n {
			for which, turn := range bad {
				s := script(n)
				turn(&s.Starts[at])
				newRefused(t, fmt.Sprint("bad Start ", which, " at ", at), s)
			}
		}
	}
}

// Beside its error layer 11 answers a zero session: ahead of an Id above 0 the machine of it might be.
func TestNewDoesNotTakeAZeroSessionForAStart(t *testing.T) {
	for _, bad := range []api.Start{{Id: 255}, {Label: 1}, {Prog: []api.Inst{{Code: 9}}}, {Clear: 4}} {
		newRefused(t, "a bad Start alone", api.Script{Starts: []api.Start{bad}})
		newRefused(t, "a bad Start ahead", api.Script{Starts: []api.Start{bad, {Id: 1}}})
	}
}

// Starts that may be, each, make a machine that may not be: Ids that do not rise, words that are not there.
func TestNewOfMachinesThatMayNotBe(t *testing.T) {
	for n := 2; n <= maxSessions; n++ {
		for at := 1; at < n; at++ {
			for _, down := range []int{0, 1, 39} {
				s := script(n)
				s.Starts[at].Id = s.Starts[at-1].Id - down
				newRefused(t, "Ids that do not rise", s)
			}
		}
	}
	for n := range 16 {
		for place := range maxSessions {
			for at := range 6 {
				for _, code := range []int{2, 3} {
					s := script(maxSessions)
					s.Starts[place].Prog[at] = api.Inst{Code: code, B: n / 4, C: n % 4}
					if n%4 < sizes[n/4] {
						newIs(t, "a word that is there", s)
					} else {
						newRefused(t, "a word that is not there", s)
					}
				}
			}
		}
	}
}

// Each of these alone and each two of them: one error stands for all.
func TestNewOfSeveralAtOnce(t *testing.T) {
	all := []func(s *api.Script){
		func(s *api.Script) { s.Words[0] = make([]int, 5) },
		func(s *api.Script) { s.Words[1][1] = 256 },
		func(s *api.Script) { s.Words[3][0] = -1 },
		func(s *api.Script) { s.Ceiling = -1 },
		func(s *api.Script) { s.Ceiling = 65536 },
		func(s *api.Script) { s.Starts[0].Id = -1 },
		func(s *api.Script) { s.Starts[1].Label, s.Starts[1].Clear = 3, 1 },
		func(s *api.Script) { s.Starts[2].Id = 40 },
		func(s *api.Script) { s.Starts[2].Prog = []api.Inst{{Code: 2, B: 2}} },
		func(s *api.Script) { s.Starts[3].Prog = []api.Inst{{Code: 8}} },
		func(s *api.Script) { s.Starts = append(s.Starts, api.Start{Id: 254}) },
	}
	for first := range all {
		for second := range all {
			s := script(4)
			all[first](&s)
			all[second](&s)
			newRefused(t, fmt.Sprint("faults ", first, " and ", second), s)
		}
	}
}

// values are of any size: an event's value has no limits.
var values = append([]int{0, 1, 2, 255, 256, 300, 65535}, far...)

// tellIs: the event is last, all else as it was.
func tellIs(t *testing.T, m api.Machine, at int, kind int, value int) {
	t.Helper()
	want := m
	want.Trace = append(slices.Clone(m.Trace), api.Event{Id: m.Sessions[at].Id, Label: m.Sessions[at].Label, Kind: kind, Value: value})
	if len(m.Trace) == maxTrace {
		want = m
	}
	if got, e := Tell(m, at, kind, value); told(got) != told(want) || e != api.OK || !May(got) {
		t.Fatalf("P12.2: Tell(%s, %d, %d, %d) = %s, %d, want %s, 0", told(m), at, kind, value, told(got), e, told(want))
	}
}

// This is written out whole, the answer too.
func TestTellOrdinary(t *testing.T) {
	m := api.Machine{Ceiling: 5, Sessions: []api.Session{{Id: 3}, {Id: 8, Label: 1, Clear: 3}}, Trace: []api.Event{{Id: 3, Kind: 4, Value: 1}}}
	got, e := Tell(m, 1, 6, 5)
	want := "[{Id:3 Label:0 Kind:4 Value:1} {Id:8 Label:1 Kind:6 Value:5}]"
	if fmt.Sprintf("%+v", got.Trace) != want || e != api.OK {
		t.Errorf("P12.2: Tell's Trace is %+v, %d, want %s, 0", got.Trace, e, want)
	}
	got.Trace = m.Trace
	if told(got) != told(m) {
		t.Errorf("P12.2: Tell turned more than the Trace: %s, was %s", told(got), told(m))
	}
}

func TestTellOfEachSessionAndKind(t *testing.T) {
	for n := 1; n <= maxSessions; n++ {
		for at := range n {
			for kind := range events {
				for label := range 4 {
					m := laid(n)
					m.Sessions[at].Label = label
					for _, value := range values {
						tellIs(t, m, at, kind, value)
					}
				}
			}
		}
	}
}

// From no event up to the most, and none beyond: then the machine is as it was.
func TestTellFillsTheTrace(t *testing.T) {
	m := laid(3)
	m.Trace = nil
	for n := range maxTrace + 3 {
		tellIs(t, m, n%3, n%events, n-200)
		next, e := Tell(m, n%3, n%events, n-200)
		if len(next.Trace) != min(n+1, maxTrace) || e != api.OK {
			t.Fatalf("P12.2: %d events behind %d, %d", len(next.Trace), n, e)
		}
		m = next
	}
}

// The room behind a full Trace is not written into, however great it is.
func TestTellWithAFullTrace(t *testing.T) {
	for _, n := range []int{maxTrace - 2, maxTrace - 1, maxTrace} {
		for at := range maxSessions {
			for kind := range events {
				m := laid(4)
				m.Trace = trace(600)[:n]
				tellIs(t, m, at, kind, 77)
			}
		}
	}
}

func TestTellOfNoSuchSessionOrKind(t *testing.T) {
	places := append([]int{-1, -2, -5, 256, 257, 1<<32 + 1}, far...)
	kinds := beyond(events - 1)
	for n := range maxSessions + 1 {
		m := laid(n)
		for _, at := range append([]int{n, n + 1, n + 4, 1<<32 + n}, places...) {
			for kind := range events {
				tellRefused(t, "no such session", m, at, kind)
			}
			for _, kind := range kinds {
				tellRefused(t, "no such session, no such kind", m, at, kind)
			}
		}
		for at := range n {
			for _, kind := range kinds {
				tellRefused(t, "no such kind", m, at, kind)
			}
		}
	}
	m := laid(2)
	m.Sessions = laid(4).Sessions[:2]
	tellRefused(t, "a session in the room behind the others", m, 2, 0)
	m.Trace = trace(maxTrace)
	tellRefused(t, "no such session, and a full Trace", m, 2, 0)
	tellRefused(t, "no such kind, and a full Trace", m, 1, events)
}

// Each fault beside a place and a kind that are wrong or not: one error stands for all.
func TestTellOfSeveralAtOnce(t *testing.T) {
	for _, fault := range faults() {
		m := laid(4)
		fault(&m)
		for _, at := range []int{-1, 0, 3, 4, math.MaxInt, math.MinInt} {
			for _, kind := range []int{-1, 0, 6, 7, math.MaxInt, math.MinInt} {
				tellRefused(t, "a machine that may not be", m, at, kind)
			}
		}
	}
}

// roomy is a list with room behind it, in which others of its items lie.
func roomy[T any](list []T, other T) []T {
	return append(slices.Clone(list), other, other, other)[:len(list)]
}

// roomyMachine has such room behind each of its lists.
func roomyMachine(m api.Machine) api.Machine {
	for level, list := range m.Words {
		m.Words[level] = roomy(list, api.Word{Value: 111})
	}
	for at := range m.Sessions {
		s := &m.Sessions[at]
		s.Prog, s.Reads, s.Writes = roomy(s.Prog, api.Inst{Code: 111}), roomy(s.Reads, api.Read{Level: 111}), roomy(s.Writes, api.Write{Level: 111})
	}
	m.Sessions, m.Trace = roomy(m.Sessions, api.Session{Id: 111}), roomy(m.Trace, api.Event{Id: 111})
	return m
}

// whole tells a machine, and what lies in its lists' room.
func whole(m api.Machine) string {
	for level, list := range m.Words {
		m.Words[level] = list[:cap(list)]
	}
	m.Sessions, m.Trace = slices.Clone(m.Sessions[:cap(m.Sessions)]), m.Trace[:cap(m.Trace)]
	for at := range m.Sessions {
		s := &m.Sessions[at]
		s.Prog, s.Reads, s.Writes = s.Prog[:cap(s.Prog)], s.Reads[:cap(s.Reads)], s.Writes[:cap(s.Writes)]
	}
	return told(m)
}

// fill writes over a list, and over its room.
func fill[T any](list []T, with T) {
	list = list[:cap(list)]
	for at := range list {
		list[at] = with
	}
}

// lists are a machine's lists, each as what writes over it.
func lists(m api.Machine) []func() {
	all := []func(){
		func() { fill(m.Sessions, api.Session{Id: -9}) },
		func() { fill(m.Trace, api.Event{Id: -9, Label: -9}) },
	}
	for _, ws := range m.Words {
		all = append(all, func() { fill(ws, api.Word{Value: -9}) })
	}
	for _, s := range m.Sessions {
		all = append(all,
			func() { fill(s.Prog, api.Inst{Code: -9}) },
			func() { fill(s.Reads, api.Read{Level: -9}) },
			func() { fill(s.Writes, api.Write{Level: -9}) })
	}
	return all
}

// tales tells each of a machine's lists alone, in the row of lists.
func tales(m api.Machine, sessions []api.Session) []string {
	all := []string{"", fmt.Sprint(m.Trace)}
	for _, s := range m.Sessions {
		s.Prog, s.Reads, s.Writes = nil, nil, nil
		all[0] += fmt.Sprint(s)
	}
	for _, ws := range m.Words {
		all = append(all, fmt.Sprint(ws))
	}
	for _, s := range sessions {
		all = append(all, fmt.Sprint(s.Prog), fmt.Sprint(s.Reads), fmt.Sprint(s.Writes))
	}
	return all
}

// shareNone: writing over each list of an answer, made anew each time, turns that list alone.
func shareNone(t *testing.T, what string, answer func() api.Machine) {
	t.Helper()
	for at := range lists(answer()) {
		m := answer()
		sessions := slices.Clone(m.Sessions)
		old := tales(m, sessions)
		lists(m)[at]()
		for other, tale := range tales(m, sessions) {
			if other != at && tale != old[other] {
				t.Errorf("R4: %s: writing over list %d of an answer turned its list %d: %s, was %s", what, at, other, tale, old[other])
			}
		}
	}
}

// machines are some that may be, and some that may not, with room behind their lists.
func machines() []api.Machine {
	var all []api.Machine
	for n := range maxSessions + 1 {
		all = append(all, roomyMachine(laid(n)))
	}
	for _, n := range []int{0, 1, 511, 512, 513} {
		m := laid(3)
		m.Trace = trace(n)
		all = append(all, roomyMachine(m))
	}
	for _, fault := range faults() {
		m := laid(4)
		fault(&m)
		all = append(all, roomyMachine(m))
	}
	return append(all, api.Machine{})
}

func TestMachinesHandedInStay(t *testing.T) {
	for _, m := range machines() {
		old := whole(m)
		May(m)
		for at := -1; at <= maxSessions; at++ {
			for kind := -1; kind <= events; kind++ {
				Tell(m, at, kind, 5)
			}
		}
		if whole(m) != old {
			t.Errorf("R4: the machine handed in, or its room, is %s, was %s", whole(m), old)
		}
	}
}

// Neither writing over an answer nor over the machine handed in turns anything else; laying on behind a list does not, either.
func TestTellSharesNothing(t *testing.T) {
	for _, m := range machines() {
		if !May(m) || len(m.Sessions) == 0 {
			continue
		}
		old := whole(m)
		first, _ := Tell(m, 0, 2, 3)
		second, _ := Tell(m, 0, 2, 3)
		want := told(first)
		if told(second) != want {
			t.Fatalf("R5: Tell answered %s, then %s", want, told(second))
		}
		_ = append(first.Trace, api.Event{Id: -9})
		_ = append(first.Sessions, api.Session{Id: -9})
		for _, writeOver := range lists(first) {
			writeOver()
		}
		if whole(m) != old || told(second) != want {
			t.Errorf("R4: writing over an answer turned the machine handed in, or another answer: %s, %s", whole(m), told(second))
		}
		for _, writeOver := range lists(m) {
			writeOver()
		}
		if told(second) != want {
			t.Errorf("R4: writing over the machine handed in turned an answer: %s, was %s", told(second), want)
		}
	}
	shareNone(t, "Tell", func() api.Machine {
		got, _ := Tell(laid(4), 2, 5, 1)
		return got
	})
	full := laid(4)
	full.Trace = trace(maxTrace)
	shareNone(t, "Tell of a full Trace", func() api.Machine {
		got, _ := Tell(full, 2, 5, 1)
		return got
	})
}

// One list that stands in a machine handed in twice stands in the answer as two.
func TestTellPartsListsThatWereOne(t *testing.T) {
	m := api.Machine{Sessions: []api.Session{{Id: 0}, {Id: 1}, {Id: 2}}}
	ws := make([]api.Word, 4)
	m.Words = [4][]api.Word{ws, ws, ws, ws}
	p, rs, wr := []api.Inst{{Code: 2}}, []api.Read{{}}, []api.Write{{}}
	for at := range m.Sessions {
		m.Sessions[at].Prog, m.Sessions[at].Reads, m.Sessions[at].Writes = p, rs, wr
	}
	shareNone(t, "Tell", func() api.Machine {
		got, _ := Tell(m, 0, 0, 0)
		return got
	})
}

// tellScript tells a script, and what lies in its lists' room.
func tellScript(s api.Script) string {
	for level, vs := range s.Words {
		s.Words[level] = vs[:cap(vs)]
	}
	s.Starts, s.Slots = slices.Clone(s.Starts[:cap(s.Starts)]), s.Slots[:cap(s.Slots)]
	for at := range s.Starts {
		s.Starts[at].Prog = s.Starts[at].Prog[:cap(s.Starts[at].Prog)]
	}
	return fmt.Sprintf("%+v", s)
}

func roomyScript(s api.Script) api.Script {
	for level, vs := range s.Words {
		s.Words[level] = roomy(vs, 111)
	}
	for at := range s.Starts {
		s.Starts[at].Prog = roomy(s.Starts[at].Prog, api.Inst{Code: 111})
	}
	s.Starts, s.Slots = roomy(s.Starts, api.Start{Id: 111}), roomy(s.Slots, api.Slot{Level: 111})
	return s
}

func TestScriptsHandedInStay(t *testing.T) {
	for n := range maxSessions + 2 {
		s := roomyScript(script(min(n, maxSessions)))
		if n > maxSessions {
			s.Starts[2].Prog[1].Code = 9
		}
		old := tellScript(s)
		New(s)
		if tellScript(s) != old {
			t.Errorf("R4: the script handed in, or its room, is %s, was %s", tellScript(s), old)
		}
	}
}

// Neither writing over an answer nor over the script handed in turns anything else.
func TestNewSharesNothing(t *testing.T) {
	for n := range maxSessions + 1 {
		s := roomyScript(script(n))
		old := tellScript(s)
		first, _ := New(s)
		second, _ := New(s)
		want := told(first)
		if told(second) != want {
			t.Fatalf("R5: New answered %s, then %s", want, told(second))
		}
		for _, writeOver := range lists(first) {
			writeOver()
		}
		if tellScript(s) != old || told(second) != want {
			t.Errorf("R4: writing over an answer turned the script handed in, or another answer: %s, %s", tellScript(s), told(second))
		}
		for _, vs := range s.Words {
			fill(vs, -9)
		}
		for _, b := range s.Starts {
			fill(b.Prog, api.Inst{Code: -9})
		}
		fill(s.Starts, api.Start{Id: -9})
		if told(second) != want {
			t.Errorf("R4: writing over the script handed in turned an answer: %s, was %s", told(second), want)
		}
	}
	one := script(4)
	one.Words[1] = one.Words[0]
	for at := range one.Starts {
		one.Starts[at].Prog = one.Starts[0].Prog
	}
	shareNone(t, "New", func() api.Machine {
		got, _ := New(one)
		return got
	})
}

// What is answered of another machine in between, or of the same one, tells in no answer.
func TestCallsDoNotHangOnOthers(t *testing.T) {
	list := machines()
	for _, m := range list {
		may := May(m)
		first, e := Tell(m, 0, 1, 2)
		for _, other := range list {
			May(other)
			Tell(other, 0, 3, 4)
		}
		New(script(2))
		second, again := Tell(m, 0, 1, 2)
		if told(first) != told(second) || e != again || may != May(m) {
			t.Errorf("R5: Tell answered %s, %d, then %s, %d", told(first), e, told(second), again)
		}
	}
}

// No helper that ends the test is called here, as these are other goroutines than the test's.
func TestAnswersHangOnArgumentsAlone(t *testing.T) {
	var wg sync.WaitGroup
	m, wrong, s := laid(4), laid(4), script(4)
	wrong.Sessions[3].Writes[2].Index = 3
	wantTold, _ := Tell(m, 1, 2, 3)
	wantMade, _ := New(s)
	for range 16 {
		wg.Go(func() {
			for range 50 {
				if got, e := Tell(m, 1, 2, 3); told(got) != told(wantTold) || e != api.OK {
					t.Errorf("R5: Tell = %s, %d, want %s, 0", told(got), e, told(wantTold))
				}
				if got, e := New(s); told(got) != told(wantMade) || e != api.OK {
					t.Errorf("R5: New = %s, %d, want %s, 0", told(got), e, told(wantMade))
				}
				if !May(m) || May(wrong) {
					t.Error("R5: May tells something else")
				}
			}
		})
	}
	wg.Wait()
}
