package fetch

import (
	"fmt"
	"math"
	"reflect"
	"slices"
	"sync"
	"testing"

	"veil/api"
	"veil/mach"
	"veil/sample"
	"veil/undo"
)

// The limits are written out as numbers, so that they share no name with what they test.
const (
	maxSessions   = 4
	maxTrace      = 512
	maxInsts      = 16
	maxClock      = 65535
	allWords      = 16
	eventRead     = 0
	eventConflict = 3
	fetchForm     = 1500
)

// The ways that a step may go: the session's own write, a word not read so far, one that is read already, beginning anew.
const (
	own      = "own"
	fresh    = "fresh"
	known    = "known"
	conflict = "conflict"
)

// far are no session's place.
var far = []int{
	-1, -2, -3, -4, -5, -255, -256, 4, 5, 6, 7, 8, 255, 256, 65535, 65536, 1 << 31, 1 << 32, 1<<32 + 1, 1<<32 + 3,
	math.MaxInt32, math.MaxInt - 1, math.MaxInt, math.MinInt32, math.MinInt, math.MinInt + 1, math.MinInt + 3,
}

// below: may a session of that label read that level, with no drift?
var below = [4][4]bool{{true}, {true, true}, {true, false, true}, {true, true, true, true}}

// arounds are instructions that tell when they are asked in the stead of the one at Pc.
var arounds = []api.Inst{{Code: 5}, {Code: 2, A: 3, B: 3, C: 3}, {Code: 2}, {Code: 3, A: 1, B: 1, C: 2}, {Code: 6, A: 9}, {Code: 0, A: 2, B: 77}}

// spot is where a session stands: its label, which of the words it reads, into which register, its Pc in a program of n; around are the other instructions.
type spot struct {
	label, word, register, pc, n int
	around                       api.Inst
}

// put sets the session at a place on a spot.
func put(m api.Machine, at int, p spot) api.Machine {
	s := &m.Sessions[at]
	s.Step, s.Label, s.Clear, s.Pc = 0, p.label, 3, p.pc
	s.Prog = slices.Repeat([]api.Inst{p.around}, p.n)
	s.Prog[p.pc] = api.Inst{Code: 2, A: p.register, B: p.word / 4, C: p.word % 4}
	return m
}

// calm is a machine in which no word is locked; its sessions read nothing and write nothing so far, and stand at a read of one word.
func calm(word int) api.Machine {
	m := sample.Unlocked(4)
	for at := range m.Sessions {
		s := &m.Sessions[at]
		s.Reads, s.Writes, s.At = nil, nil, 0
		put(m, at, spot{3, word, at, 1, 3, api.Inst{Code: 5}})
	}
	return m
}

// but are so many words but one, in a row that neither rises nor falls.
func but(word int, n int) []int {
	var words []int
	for k := range allWords {
		if other := k * 5 % allWords; other != word {
			words = append(words, other)
		}
	}
	return words[:n]
}

// allBut are all words but one, rising.
func allBut(word int) []int {
	words := but(word, allWords-1)
	slices.Sort(words)
	return words
}

// each are machines that go each way at a read of one word, by the session at a place.
func each(word int, at int) map[string]api.Machine {
	all := map[string]api.Machine{own: calm(word), fresh: calm(word), known: calm(word), conflict: calm(word)}
	all[own].Sessions[at].Writes = sample.Writes(word)
	all[fresh].Sessions[at].Reads = sample.Reads(all[fresh], but(word, 2)...)
	all[known].Sessions[at].Reads = sample.Reads(all[known], append(but(word, 2), word)...)
	sample.Word(all[conflict], word).Lock = 9
	return all
}

// tell is a machine whole, each field by its name; an empty list and nil are one there.
func tell(m api.Machine) string { return fmt.Sprintf("%+v", m) }

func isZero(m api.Machine) bool { return reflect.DeepEqual(m, api.Machine{}) }

// wantStep is what Step must answer where it goes that way.
func wantStep(m api.Machine, at int, way string) api.Machine {
	if way == conflict {
		m, _ = undo.Again(m, at, eventConflict)
		return m
	}
	m = sample.Copy(m)
	s := &m.Sessions[at]
	i := s.Prog[s.Pc]
	w := m.Words[i.B][i.C]
	value := w.Value
	switch way {
	case own:
		for _, mine := range s.Writes {
			if mine.Level == i.B && mine.Index == i.C {
				value = mine.Value
			}
		}
	case fresh:
		s.Reads = append(s.Reads, api.Read{Level: i.B, Index: i.C, Version: w.Version})
	}
	s.Regs[i.A], s.Pc = value, s.Pc+1
	if len(m.Trace) != maxTrace {
		m.Trace = append(m.Trace, api.Event{Id: s.Id, Label: s.Label, Kind: eventRead, Value: value})
	}
	return m
}

// stepIs answers what Step does of a session that stands at a read of a level below it, if that is what it must be.
func stepIs(t *testing.T, m api.Machine, at int, way string) api.Machine {
	t.Helper()
	want := tell(wantStep(m, at, way))
	got, e := Step(m, at)
	if tell(got) != want || e != api.OK {
		t.Fatalf("P15.1: %s: Step(%s, %d) = %s, %d, want %s, 0", way, tell(m), at, tell(got), e, want)
	}
	if !mach.May(got) {
		t.Fatalf("P15.1: %s: Step(%s, %d) = %s, which may not be", way, tell(m), at, tell(got))
	}
	return got
}

func stepRefused(t *testing.T, what string, m api.Machine, at int) {
	t.Helper()
	if got, e := Step(m, at); !isZero(got) || e != fetchForm {
		t.Fatalf("P15.1: %s: Step(.., %d) = %s, %d, want zero, 1500", what, at, tell(got), e)
	}
}

// eachIs asks each way of a read, and each as it is turned first.
func eachIs(t *testing.T, word int, at int, turn func(m *api.Machine)) {
	t.Helper()
	for way, m := range each(word, at) {
		turn(&m)
		stepIs(t, m, at, way)
	}
}

// eachRefused: each way is refused once a machine is turned so.
func eachRefused(t *testing.T, what string, at int, turn func(m *api.Machine)) {
	t.Helper()
	for way, m := range each(6, at) {
		turn(&m)
		stepRefused(t, what+", "+way, m, at)
	}
}

func TestLimits(t *testing.T) {
	if api.MaxSessions != maxSessions || api.MaxTrace != maxTrace || api.MaxInsts != maxInsts || api.MaxClock != maxClock || api.Levels*api.MaxWords != allWords || api.ErrFetchForm != fetchForm || api.OK != 0 {
		t.Fatal("the limits of these tests are not those of package api")
	}
	if api.EventRead != eventRead || api.EventConflict != eventConflict || api.StepRun != 0 || api.StepDone != 6 || api.CodeRead != 2 {
		t.Fatal("the numbers of these tests are not those of package api")
	}
	for at := range maxSessions {
		for way, m := range each(6, at) {
			if !mach.May(m) {
				t.Fatalf("the machine of these tests for %s by session %d may not be", way, at)
			}
		}
	}
}

// These are written out whole, the answers too.
func TestOrdinary(t *testing.T) {
	m := api.Machine{
		Words: [4][]api.Word{{{Value: 4, Version: 6}}, {{Value: 5, Version: 2, Lock: 8}, {Value: 6, Version: 3}}}, Clocks: [4]int{0, 2, 0, 0}, Ceiling: 9,
		Sessions: []api.Session{{Id: 5, Reads: []api.Read{{}}, Stamp: 1}, {
			Id: 7, Label: 1, Clear: 3, Prog: []api.Inst{{Code: 5}, {Code: 2, A: 2, B: 1, C: 1}}, Pc: 1, Regs: [4]int{9, 8, 7, 6},
			Reads: []api.Read{{Level: 0, Index: 0, Version: 6}}, Writes: []api.Write{{Level: 1, Value: 5}}, At: 1, Stamp: 3, Tries: 8, Result: 2, Told: 44,
		}},
		Trace: []api.Event{{Id: 7, Label: 1, Value: 5}},
	}
	words := "{Words:[[{Value:4 Version:6 Lock:0}] [{Value:5 Version:2 Lock:%d} {Value:6 Version:3 Lock:0}] [] []] Clocks:[0 2 0 0] Ceiling:9 Sessions:[" +
		"{Id:5 Label:0 Clear:0 Prog:[] Step:0 Pc:0 Regs:[0 0 0 0] Reads:[{Level:0 Index:0 Version:0}] Writes:[] At:0 Stamp:1 Tries:0 Result:0 Told:0} " +
		"{Id:7 Label:1 Clear:3 Prog:[{Code:5 A:0 B:0 C:0} {Code:2 A:2 B:1 C:%d}] Step:0 %s Result:2 Told:44}] Trace:[{Id:7 Label:1 Kind:0 Value:5} {Id:7 Label:1 Kind:%d Value:%d}]}"
	want := fmt.Sprintf(words, 8, 1, "Pc:2 Regs:[9 8 6 6] Reads:[{Level:0 Index:0 Version:6} {Level:1 Index:1 Version:3}] Writes:[{Level:1 Index:0 Value:5}] At:1 Stamp:3 Tries:8", 0, 6)
	ordinaryIs(t, "a word", m, want)
	m.Sessions[1].Reads = append(m.Sessions[1].Reads, api.Read{Level: 1, Index: 1, Version: 3})
	ordinaryIs(t, "a word that is read already", m, want)
	m.Sessions[1].Reads[1].Version = 2
	ordinaryIs(t, "a word of another version", m, fmt.Sprintf(words, 0, 1, "Pc:0 Regs:[0 0 0 0] Reads:[] Writes:[] At:0 Stamp:0 Tries:9", 3, 9))
	m.Sessions[1].Prog[1].C = 0
	ordinaryIs(t, "a write of its own", m, fmt.Sprintf(words, 8, 0, "Pc:2 Regs:[9 8 5 6] Reads:[{Level:0 Index:0 Version:6} {Level:1 Index:1 Version:2}] Writes:[{Level:1 Index:0 Value:5}] At:1 Stamp:3 Tries:8", 0, 5))
	m.Sessions[1].Prog[1].B = 2
	stepRefused(t, "a level that is not below", m, 1)
}

func ordinaryIs(t *testing.T, what string, m api.Machine, want string) {
	t.Helper()
	if got, e := Step(m, 1); tell(got) != want || e != api.OK {
		t.Errorf("P15.1: %s: Step = %s, %d, want %s, 0", what, tell(got), e, want)
	}
}

// Each label, each word and each register, for the session at each place; what is not below the label is refused each way.
func TestEachLabelAndWord(t *testing.T) {
	for at := range maxSessions {
		for label := range 4 {
			for word := range allWords {
				for register := range 4 {
					for way, m := range each(word, at) {
						put(m, at, spot{label, word, register, register % 3, 3, api.Inst{Code: 5}})
						if below[label][word/4] {
							stepIs(t, m, at, way)
						} else {
							stepRefused(t, fmt.Sprint("level ", word/4, " above label ", label), m, at)
						}
					}
				}
			}
		}
	}
}

// Pc at every instruction of programs of every length, among instructions that would tell otherwise.
func TestEachPlaceOfAProgram(t *testing.T) {
	for n := 1; n <= maxInsts; n++ {
		for pc := range n {
			for at := range maxSessions {
				for _, around := range arounds {
					eachIs(t, 6, at, func(m *api.Machine) { put(*m, at, spot{1, 6, 2, pc, n, around}) })
				}
			}
		}
	}
}

// Each session's place, of machines of each number of them; the others are as they begin, or not.
func TestEachPlace(t *testing.T) {
	for n := 1; n <= maxSessions; n++ {
		for at := range n {
			eachIs(t, 9, at, func(m *api.Machine) { m.Sessions = m.Sessions[:n] })
			for other := range n {
				if other != at {
					eachIs(t, 9, at, func(m *api.Machine) {
						m.Sessions = m.Sessions[:n]
						m.Sessions[other] = api.Session{Id: sample.Id(other)}
					})
				}
			}
		}
	}
}

func TestNoSuchSession(t *testing.T) {
	for n := range maxSessions + 1 {
		for way, m := range each(6, 0) {
			m.Sessions = m.Sessions[:n]
			for _, at := range append([]int{n, n + 1, n + 256, 1<<32 + n, -n - 1}, far...) {
				stepRefused(t, fmt.Sprint(way, ", no session of ", n), m, at)
			}
		}
	}
	stepRefused(t, "no session at all", api.Machine{}, 0)
}

// insts are one of each code but CodeRead, which name 1 and 2 where they name a word.
func insts(pc int) []api.Inst {
	return []api.Inst{{Code: 0, A: 1, B: 1}, {Code: 1, A: 1, B: 1}, {Code: 3, A: 1, B: 1, C: 2}, {Code: 4, A: 1, B: pc + 1}, {Code: 5}, {Code: 6, A: 1}}
}

// Each code that is not CodeRead, at each place, among reads that would do.
func TestOtherCodes(t *testing.T) {
	for at := range maxSessions {
		for _, n := range []int{1, 3, 16} {
			for pc := range n {
				for _, other := range insts(pc) {
					turn := func(m *api.Machine) {
						put(*m, at, spot{3, 6, 0, pc, n, api.Inst{Code: 2, B: 1, C: 2}})
						m.Sessions[at].Prog[pc] = other
						if !mach.May(*m) {
							t.Fatalf("the machine with %+v may not be", other)
						}
					}
					eachRefused(t, fmt.Sprintf("%+v stands there", other), at, turn)
				}
			}
		}
	}
}

func TestOtherSteps(t *testing.T) {
	for at := range maxSessions {
		for step := 1; step <= 6; step++ {
			eachRefused(t, fmt.Sprint("Step ", step), at, func(m *api.Machine) { m.Sessions[at].Step = step })
		}
	}
}

// Behind the last of none, of some and of as many instructions as there can be no code stands.
func TestEndsOfPrograms(t *testing.T) {
	for at := range maxSessions {
		for n := range maxInsts + 1 {
			for step := range 7 {
				eachRefused(t, fmt.Sprint("Step ", step, " at the end of a program of ", n), at, func(m *api.Machine) {
					s := &m.Sessions[at]
					s.Step, s.Prog, s.Pc = step, slices.Repeat([]api.Inst{{Code: 2, B: 1, C: 2}}, n+1)[:n], n
					if !mach.May(*m) {
						t.Fatalf("the machine with a program of %d may not be", n)
					}
				})
			}
		}
	}
}

// A level that is not below the label is refused, whatever the clearance: also where the session would end, not rise.
func TestDriftFirst(t *testing.T) {
	for at := range maxSessions {
		for label := range 4 {
			for clear := range 4 {
				for word := range allWords {
					if !below[clear][label] || below[label][word/4] {
						continue
					}
					for way, m := range each(word, at) {
						m.Sessions[at].Label, m.Sessions[at].Clear = label, clear
						stepRefused(t, fmt.Sprint(way, " of word ", word, ", Label ", label, ", Clear ", clear), m, at)
					}
				}
			}
		}
	}
}

// The clearance is not asked for what is below the label.
func TestClearDoesNotTell(t *testing.T) {
	for at := range maxSessions {
		for label := range 4 {
			for word := range allWords {
				if below[label][word/4] {
					eachIs(t, word, at, func(m *api.Machine) { m.Sessions[at].Label, m.Sessions[at].Clear = label, label })
				}
			}
		}
	}
}

// Wrong Step, wrong code, the program's end, a drift to come, no session and a machine that may not be, several of them at once.
func TestSeveralAtOnce(t *testing.T) {
	turns := []func(m *api.Machine, at int){
		func(m *api.Machine, at int) { m.Sessions[at].Step = 5 },
		func(m *api.Machine, at int) { m.Sessions[at].Step = 1 },
		func(m *api.Machine, at int) { m.Sessions[at].Pc = 3 },
		func(m *api.Machine, at int) { m.Sessions[at].Pc = 2 },
		func(m *api.Machine, at int) { m.Sessions[at].Prog[1] = api.Inst{Code: 3, A: 1, B: 1, C: 2} },
		func(m *api.Machine, at int) { m.Sessions[at].Prog[1] = api.Inst{Code: 6} },
		func(m *api.Machine, at int) { m.Sessions[at].Label = 2 },
		func(m *api.Machine, at int) { m.Sessions[at].Label, m.Sessions[at].Clear = 0, 0 },
		func(m *api.Machine, at int) { m.Clocks[3] = -1 },
		func(m *api.Machine, at int) { m.Sessions[at].Regs[0] = 256 },
		func(m *api.Machine, at int) { m.Sessions = m.Sessions[:at] },
	}
	for at := range maxSessions {
		for first := range turns {
			for second := range first + 1 {
				eachRefused(t, fmt.Sprint("turns ", first, " and ", second), at, func(m *api.Machine) {
					turns[second](m, at)
					if turns[first](m, at); first == second {
						return
					}
					m.Trace = sample.Trace(maxTrace)
				})
			}
		}
	}
}

// Each fault alone and two at once, where all else would do, at places that are there and that are not.
func TestMachinesThatMayNotBe(t *testing.T) {
	for first, fault := range sample.Faults() {
		for second, other := range sample.Faults() {
			m := sample.Machine(4)
			for at := range m.Sessions {
				m.Sessions[at].Step, m.Sessions[at].Pc, m.Sessions[at].Label = 0, 0, 3
			}
			fault(&m)
			if second != first {
				other(&m)
			}
			for at := -1; at <= maxSessions; at++ {
				stepRefused(t, fmt.Sprint("faults ", first, " and ", second), m, at)
			}
		}
	}
	for which, m := range sample.TooLong() {
		stepRefused(t, fmt.Sprint("list too long ", which), m, 0)
	}
}

// A fault in a session, both that at the place asked for and another, in what a step writes over, too.
func TestSessionsThatMayNotBe(t *testing.T) {
	for which, fault := range sample.SessionFaults() {
		for wrong := range maxSessions {
			m := sample.Machine(4)
			for at := range m.Sessions {
				m.Sessions[at].Step, m.Sessions[at].Pc, m.Sessions[at].Label = 0, 0, 3
			}
			fault(&m.Sessions[wrong])
			for at := -1; at <= maxSessions; at++ {
				stepRefused(t, fmt.Sprint("session fault ", which, " in ", wrong), m, at)
			}
		}
	}
	for register := range 4 {
		for _, value := range []int{-1, 256, math.MaxInt, math.MinInt} {
			eachRefused(t, "the register itself may not be", 1, func(m *api.Machine) {
				m.Sessions[1].Prog[1].A, m.Sessions[1].Regs[register] = register, value
			})
		}
	}
}

// Instructions of registers, levels and words that are not there; words of a level that has fewer.
func TestReadsThatMayNotBe(t *testing.T) {
	for _, n := range []int{-1, 4, 5, 256, 1 << 32, math.MaxInt, math.MinInt} {
		for _, i := range []api.Inst{{Code: 2, A: n}, {Code: 2, B: n}, {Code: 2, C: n}, {Code: 2 + n}} {
			eachRefused(t, fmt.Sprintf("%+v", i), 2, func(m *api.Machine) { m.Sessions[2].Prog[1] = i })
		}
	}
	for level := range 4 {
		for words := range 4 {
			for index := range 4 {
				m := calm(0)
				m.Words[level] = m.Words[level][:words]
				for at := range m.Sessions {
					put(m, at, spot{3, 4*level + index, 1, 0, 1, api.Inst{}})
				}
				if index < words {
					stepIs(t, m, 2, fresh)
				} else {
					stepRefused(t, fmt.Sprint("word ", index, " of ", words), m, 2)
				}
			}
		}
	}
}

// What it is to write is read, for each word, each Value, whatever the word itself and the locks are; nothing is read then.
func TestOwnWrites(t *testing.T) {
	for at := range maxSessions {
		for word := range allWords {
			for _, lock := range []int{0, 1, sample.Id(at) + 1, 9, 255} {
				m := calm(word)
				s := &m.Sessions[at]
				*sample.Word(m, word) = api.Word{Value: lock, Version: 65535 - lock, Lock: lock}
				for _, value := range []int{0, 1, 128, 254, 255} {
					s.Writes = []api.Write{{Level: word / 4, Index: word % 4, Value: value}}
					if got := stepIs(t, m, at, own); got.Sessions[at].Regs[at] != value || len(got.Sessions[at].Reads) != 0 {
						t.Fatalf("P15.1: of its own write of %d the session is %+v", value, got.Sessions[at])
					}
				}
				s.Writes = sample.Writes(0, 1, 2, 3, 4, 5, 6, 7, 8, 9, 10, 11, 12, 13, 14, 15)
				stepIs(t, m, at, own)
			}
		}
	}
}

// Neither the Version nor the lock of what it read hinders it from reading its own write; Reads are as they were, with that word or not.
func TestOwnWritesDoNotHangOnReads(t *testing.T) {
	for at := range maxSessions {
		for word := range allWords {
			for n := range allWords {
				m := calm(word)
				s := &m.Sessions[at]
				s.Writes, s.Reads = sample.Writes(word), sample.Reads(m, but(word, n)...)
				stepIs(t, m, at, own)
				for index := range s.Reads {
					s.Reads[index].Version++
				}
				stepIs(t, m, at, own)
				s.Reads = append(s.Reads, api.Read{Level: word / 4, Index: word % 4, Version: n})
				stepIs(t, m, at, own)
				for other := range allWords {
					sample.Word(m, other).Lock = 9 + other
				}
				stepIs(t, m, at, own)
			}
		}
	}
}

// Writes of each other word, alone and all of them, and those of the other sessions, are not its own of that word.
func TestOtherWrites(t *testing.T) {
	for at := range maxSessions {
		for word := range allWords {
			m := calm(word)
			s := &m.Sessions[at]
			for other := range allWords {
				if other != word {
					s.Writes = sample.Writes(other)
					stepIs(t, m, at, fresh)
				}
			}
			s.Writes = sample.Writes(allBut(word)...)
			stepIs(t, m, at, fresh)
			for other := range maxSessions {
				if other != at {
					m.Sessions[other].Writes, m.Sessions[other].Reads = sample.Writes(word), sample.Reads(m, word)
				}
			}
			stepIs(t, m, at, fresh)
			s.Writes = nil
			stepIs(t, m, at, fresh)
		}
	}
}

// Any lock of the word is a conflict, the session's own, too; whether it read that word already or others does not tell.
func TestLocksOfTheWord(t *testing.T) {
	for at := range maxSessions {
		for word := at; word < allWords; word += 3 {
			for lock := range 256 {
				m := calm(word)
				sample.Word(m, word).Lock = lock
				if lock == 0 {
					stepIs(t, m, at, fresh)
					continue
				}
				stepIs(t, m, at, conflict)
				m.Sessions[at].Reads = sample.Reads(m, but(word, 1)...)
				stepIs(t, m, at, conflict)
				m.Sessions[at].Reads = sample.Reads(m, word)
				stepIs(t, m, at, conflict)
			}
		}
	}
}

// Each of its Reads, of each number of them, is of another version, is locked by another, by itself, or both.
func TestEachRead(t *testing.T) {
	for at := range maxSessions {
		for _, word := range []int{6, 15} {
			for _, n := range []int{1, 2, 3, 8, allWords - 1} {
				for which := range n {
					eachReadIs(t, at, word, but(word, n), which, fresh)
					eachReadIs(t, at, word, append(but(word, n), word), which, known)
					eachReadIs(t, at, word, append([]int{word}, but(word, n)...), which+1, known)
				}
			}
		}
	}
}

// eachReadIs turns one of the reads of some words, or its word; else it goes that way.
func eachReadIs(t *testing.T, at int, word int, words []int, which int, way string) {
	t.Helper()
	m := calm(word)
	s := &m.Sessions[at]
	w := sample.Word(m, words[which])
	w.Version = 500
	s.Reads = sample.Reads(m, words...)
	stepIs(t, m, at, way)
	mine := sample.Id(at) + 1
	for _, lock := range []int{mine, mine%255 + 1, max(mine-1, 1), 9, 255, 0} {
		w.Lock = lock
		for _, version := range []int{0, 499, 500, 501, maxClock} {
			s.Reads[which].Version = version
			if version == 500 && (lock == mine || lock == 0) {
				stepIs(t, m, at, way)
			} else {
				stepIs(t, m, at, conflict)
			}
		}
	}
}

// Locks and versions of words that it did not read, and what the others read, do not tell.
func TestWordsThatWereNotRead(t *testing.T) {
	for at := range maxSessions {
		for word := range allWords {
			m := calm(word)
			read := but(word, 3)
			for other := range allWords {
				if other != word && !slices.Contains(read, other) {
					sample.Word(m, other).Lock = 1 + other*16
				}
			}
			for other := range m.Sessions {
				m.Sessions[other].Reads = []api.Read{{Level: 1, Index: 1, Version: 60000}, {Level: 0, Index: 0, Version: 60000}}
			}
			m.Sessions[at].Reads = sample.Reads(m, read...)
			stepIs(t, m, at, fresh)
			m.Sessions[at].Reads = nil
			stepIs(t, m, at, fresh)
		}
	}
}

// Reads of none up to as many as there can be, with the word that is read again at each place among them.
func TestReadsOfEachNumber(t *testing.T) {
	for at := range maxSessions {
		for word := range allWords {
			for n := range allWords {
				m := calm(word)
				s := &m.Sessions[at]
				s.Reads = sample.Reads(m, but(word, n)...)
				got := stepIs(t, m, at, fresh).Sessions[at].Reads
				if last := (api.Read{Level: word / 4, Index: word % 4, Version: sample.Word(m, word).Version}); len(got) != n+1 || got[n] != last {
					t.Fatalf("P15.1: behind %d reads the reads are %+v, want %+v last", n, got, last)
				}
				for place := range n + 1 {
					s.Reads = sample.Reads(m, slices.Insert(but(word, n), place, word)...)
					if again := stepIs(t, m, at, known).Sessions[at].Reads; !slices.Equal(again, s.Reads) {
						t.Fatalf("P15.1: of %+v the reads are %+v", s.Reads, again)
					}
				}
			}
		}
	}
}

// Each value that a word may have, and versions from the first to the last, whatever the register held.
func TestValuesAndVersions(t *testing.T) {
	for at := range maxSessions {
		for value := range 256 {
			for _, version := range []int{0, 1, 255 - value, 257 * value, maxClock} {
				m := calm(13)
				m.Sessions[at].Regs = [4]int{255 - value, value, 255 - value, 7}
				*sample.Word(m, 13) = api.Word{Value: value, Version: version}
				stepIs(t, m, at, fresh)
				m.Sessions[at].Reads = sample.Reads(m, 13)
				stepIs(t, m, at, known)
			}
		}
	}
}

// Each register takes the value, whatever all four held, and the three others are as they were.
func TestRegisters(t *testing.T) {
	for at := range maxSessions {
		for register := range 4 {
			for _, held := range [][4]int{{}, {1, 2, 3, 4}, {255, 255, 255, 255}, {0, 255, 0, 255}, {200, 100, 50, 25}} {
				eachIs(t, 6, at, func(m *api.Machine) {
					put(*m, at, spot{1, 6, register, 0, 2, api.Inst{Code: 1, A: register}})
					m.Sessions[at].Regs = held
				})
			}
		}
	}
}

// With room for one event there is one more, with none nothing is told, and all else is done.
func TestTraces(t *testing.T) {
	for _, n := range []int{0, 1, 2, 255, 256, 510, maxTrace - 1, maxTrace} {
		for at := range maxSessions {
			for way, m := range each(6, at) {
				m.Trace = sample.Trace(maxTrace + 9)[:n]
				got := stepIs(t, m, at, way)
				if want := min(n+1, maxTrace); len(got.Trace) != want || !slices.Equal(got.Trace[:n], m.Trace) {
					t.Errorf("P15.1: %s: behind %d events there are %d, want %d", way, n, len(got.Trace), want)
				}
				if pc := got.Sessions[at].Pc; way != conflict && pc != 2 {
					t.Errorf("P15.1: %s: behind %d events Pc is %d, want 2", way, n, pc)
				}
			}
		}
	}
}

// The event is of the session's Id and Label, and tells the value that the register has then.
func TestEvent(t *testing.T) {
	for at := range maxSessions {
		for label := range 4 {
			for way, m := range each(2, at) {
				m.Sessions[at].Label = label
				got := stepIs(t, m, at, way)
				want := api.Event{Id: sample.Id(at), Label: label, Kind: eventRead, Value: got.Sessions[at].Regs[at]}
				if way == conflict {
					want.Kind, want.Value = eventConflict, 21+at
				}
				if last := got.Trace[len(got.Trace)-1]; last != want {
					t.Errorf("P15.1: %s: %+v is told, want %+v", way, last, want)
				}
			}
		}
	}
}

// What else the session has, whatever it is, stays as it is, and is not asked.
func TestNothingElseTurns(t *testing.T) {
	for at := range maxSessions {
		for _, n := range []int{0, 1, 127, 254, 255} {
			eachIs(t, 6, at, func(m *api.Machine) {
				s := &m.Sessions[at]
				s.Told, s.Tries, s.Stamp, s.At = n, 257*n, 65535-257*n, n%(len(s.Writes)+1)
				m.Ceiling = 65535
				m.Clocks = [4]int{n, 257 * n, 65535, 0}
			})
		}
		for result := range 6 {
			eachIs(t, 6, at, func(m *api.Machine) { m.Sessions[at].Result = result })
		}
		for tries := maxClock - 2; tries <= maxClock; tries++ {
			eachIs(t, 6, at, func(m *api.Machine) { m.Sessions[at].Tries = tries })
		}
	}
}

// A conflict is layer 13's Again and no more: what the session holds is let go, the locks that are not its own stay.
func TestConflict(t *testing.T) {
	for at := range maxSessions {
		m := sample.Machine(4)
		for other := range maxSessions {
			put(m, other, spot{3, 6, 3, 1, 3, api.Inst{Code: 5}})
		}
		got := stepIs(t, m, at, conflict)
		s := got.Sessions[at]
		if s.Pc != 0 || s.Regs != [4]int{} || s.Step != 0 || s.Tries != 21+at || len(s.Reads)+len(s.Writes)+s.At+s.Stamp != 0 || len(s.Prog) != 3 {
			t.Errorf("P15.1: behind a conflict the session is %+v", s)
		}
		for word := range allWords {
			was, is := sample.Word(m, word).Lock, sample.Word(got, word).Lock
			if was == sample.Id(at)+1 && is != 0 || was != sample.Id(at)+1 && is != was {
				t.Errorf("P15.1: behind a conflict of session %d the lock of word %d is %d, was %d", at, word, is, was)
			}
		}
	}
}

// A program of reads goes on to its end, each word twice, one of them its own write; then nothing is read any more.
func TestOneBehindAnother(t *testing.T) {
	for at := range maxSessions {
		m := calm(0)
		s := &m.Sessions[at]
		s.Prog, s.Pc, s.Writes, s.Regs = nil, 0, sample.Writes(3), [4]int{}
		for n := range maxInsts {
			s.Prog = append(s.Prog, api.Inst{Code: 2, A: n % 4, B: n / 2 % 4, C: n % 2 * 3})
		}
		ways := []string{fresh, own, fresh, fresh, fresh, fresh, fresh, fresh, known, own, known, known, known, known, known, known}
		for _, way := range ways {
			m = stepIs(t, m, at, way)
		}
		want := []api.Read{{Level: 0, Version: 0}, {Level: 1, Version: 100}, {Level: 1, Index: 3, Version: 121}, {Level: 2, Version: 200}, {Level: 2, Index: 3, Version: 221}, {Level: 3, Version: 300}, {Level: 3, Index: 3, Version: 321}}
		if got := m.Sessions[at].Reads; !slices.Equal(got, want) || m.Sessions[at].Regs != [4]int{120, 123, 180, 183} {
			t.Errorf("P15.1: Reads are %+v, registers %v, want %+v", got, m.Sessions[at].Regs, want)
		}
		stepRefused(t, "the program's end", m, at)
	}
}

// Behind a word's new version what was read of it holds no more: the next read, of any word, begins anew.
func TestVersionsBetweenTwoReads(t *testing.T) {
	for at := range maxSessions {
		for word := range allWords {
			for next := range allWords {
				m := calm(word)
				put(m, at, spot{3, word, 0, 0, 2, api.Inst{Code: 2, A: 1, B: next / 4, C: next % 4}})
				m = stepIs(t, m, at, fresh)
				way := fresh
				if next == word {
					way = known
				}
				stepIs(t, m, at, way)
				sample.Word(m, word).Version++
				stepIs(t, m, at, conflict)
			}
		}
	}
}

// calls are Step at each place and beyond.
func calls() map[int]sample.Call {
	all := map[int]sample.Call{}
	for at := -1; at <= maxSessions; at++ {
		all[at] = func(m api.Machine) (api.Machine, api.Errno) { return Step(m, at) }
	}
	return all
}

// machines are some in which something is done, and some that are refused.
func machines() []api.Machine {
	all := []api.Machine{{}, sample.Machine(0), sample.Machine(4)}
	for at := range maxSessions {
		for _, m := range each(6, at) {
			full := sample.Copy(m)
			full.Trace = sample.Trace(maxTrace)
			all = append(all, m, full)
		}
	}
	for _, n := range []int{0, 511, 513} {
		m := calm(9)
		m.Trace = sample.Trace(n)
		all = append(all, m)
	}
	for _, fault := range sample.Faults() {
		m := sample.Machine(4)
		m.Sessions[2].Step, m.Sessions[2].Pc, m.Sessions[2].Label = 0, 0, 3
		fault(&m)
		all = append(all, m)
	}
	return all
}

func TestNothingIsTurnedOrShared(t *testing.T) {
	for which, m := range machines() {
		for at, call := range calls() {
			if broken := sample.Broken(m, call); broken != "" {
				t.Errorf("%s: Step at %d of machine %d", broken, at, which)
			}
		}
	}
}

// One list that stands in a machine handed in several times stands in the answer as several.
func TestListsThatWereOne(t *testing.T) {
	prog, reads, writes := []api.Inst{{Code: 2}, {Code: 2, C: 1}, {Code: 2, C: 2}}, []api.Read{{}}, []api.Write{{Index: 2}}
	for pc, way := range []string{known, fresh, own} {
		m := sample.Tangled(api.Session{Prog: prog, Pc: pc, Reads: reads, Writes: writes})
		for at := range maxSessions {
			if sample.Shared(stepIs(t, m, at, way)) {
				t.Errorf("R4: two lists of an answer are one")
			}
		}
	}
}

// What is answered of another machine in between tells in no answer.
func TestCallsDoNotHangOnOthers(t *testing.T) {
	list := machines()
	for _, m := range list {
		for at, call := range calls() {
			first, e := call(m)
			for _, other := range list[:12] {
				call(other)
			}
			if second, again := call(m); tell(first) != tell(second) || e != again {
				t.Fatalf("R5: Step at %d answered %s, %d, then %s, %d", at, tell(first), e, tell(second), again)
			}
		}
	}
}

// No helper that ends the test is called here, as these are other goroutines than the test's.
func TestAnswersHangOnArgumentsAlone(t *testing.T) {
	var wg sync.WaitGroup
	for at := range maxSessions {
		for way, m := range each(6, at) {
			want := tell(wantStep(m, at, way))
			for range 4 {
				wg.Go(func() {
					for range 30 {
						if got, e := Step(m, at); tell(got) != want || e != api.OK {
							t.Errorf("R5: Step = %s, %d, want %s, 0", tell(got), e, want)
						}
					}
				})
			}
		}
	}
	wg.Wait()
}
