package store

import (
	"fmt"
	"math"
	"reflect"
	"slices"
	"testing"

	"veil/api"
	"veil/mach"
	"veil/sample"
)

// The limits are written out as numbers, so that they share no name with what they test.
const (
	maxSessions = 4
	maxTrace    = 512
	maxInsts    = 16
	maxClock    = 65535
	allWords    = 16
	eventWrite  = 1
	storeForm   = 1600
)

// labels are each label that may be and each clearance that it is below.
var labels = [][2]int{{0, 0}, {0, 1}, {0, 2}, {0, 3}, {1, 1}, {1, 3}, {2, 2}, {2, 3}, {3, 3}}

// arounds are instructions that tell when they are asked in the stead of the one at Pc.
var arounds = []api.Inst{{Code: 5}, {Code: 3, A: 3, B: 3, C: 3}, {Code: 3}, {Code: 2, A: 1, B: 1, C: 2}, {Code: 6, A: 9}, {Code: 0, A: 2, B: 77}}

// spot is where a session stands: which of the words it writes, of which register, its Pc in a program of n; around are the other instructions.
type spot struct {
	word, register, pc, n int
	around                api.Inst
}

// put sets the session at a place on a spot.
func put(m api.Machine, at int, p spot) {
	s := &m.Sessions[at]
	s.Step, s.Pc = 0, p.pc
	s.Prog = slices.Repeat([]api.Inst{p.around}, p.n)
	s.Prog[p.pc] = api.Inst{Code: 3, A: p.register, B: p.word / 4, C: p.word % 4}
}

// writing is a machine of four sessions that all stand at a write of one word. They are to write words 1, 4 and 14 so far, and locks are all over the words.
func writing(word int) api.Machine {
	m := sample.Machine(4)
	for at := range m.Sessions {
		put(m, at, spot{word, at, 1, 3, api.Inst{Code: 5}})
	}
	return m
}

// from are the words from one on, ahead of another.
func from(first int, end int) []int {
	var words []int
	for word := first; word < end; word++ {
		words = append(words, word)
	}
	return words
}

// tell is a machine whole, each field by its name; an empty list and nil are one there.
func tell(m api.Machine) string { return fmt.Sprintf("%+v", m) }

func isZero(m api.Machine) bool { return reflect.DeepEqual(m, api.Machine{}) }

// with are writes laid out by word, that one's turned, and gathered again.
func with(ws []api.Write, turned api.Write) []api.Write {
	laid := make([][]api.Write, allWords)
	for _, w := range append(slices.Clone(ws), turned) {
		laid[4*w.Level+w.Index] = []api.Write{w}
	}
	return slices.Concat(laid...)
}

// wantStep is what Step must answer of a session that stands at a write.
func wantStep(m api.Machine, at int) api.Machine {
	m = sample.Copy(m)
	s := &m.Sessions[at]
	i := s.Prog[s.Pc]
	value := s.Regs[i.A]
	s.Writes, s.Pc = with(s.Writes, api.Write{Level: i.B, Index: i.C, Value: value}), s.Pc+1
	if len(m.Trace) != maxTrace {
		m.Trace = append(m.Trace, api.Event{Id: s.Id, Label: s.Label, Kind: eventWrite, Value: value})
	}
	return m
}

// stepIs answers what Step does of a session that stands at a write, if that is what it must be.
func stepIs(t *testing.T, m api.Machine, at int) api.Machine {
	t.Helper()
	want := tell(wantStep(m, at))
	got, e := Step(m, at)
	if tell(got) != want || e != api.OK {
		t.Fatalf("P16.1: Step(%s, %d) = %s, %d, want %s, 0", tell(m), at, tell(got), e, want)
	}
	if !mach.May(got) {
		t.Fatalf("P16.1: Step(%s, %d) = %s, which may not be", tell(m), at, tell(got))
	}
	return got
}

func stepRefused(t *testing.T, what string, m api.Machine, at int) {
	t.Helper()
	if got, e := Step(m, at); !isZero(got) || e != storeForm {
		t.Fatalf("P16.1: %s: Step(.., %d) = %s, %d, want zero, 1600", what, at, tell(got), e)
	}
}

func TestLimits(t *testing.T) {
	if api.MaxSessions != maxSessions || api.MaxTrace != maxTrace || api.MaxInsts != maxInsts || api.MaxClock != maxClock || api.Levels*api.MaxWords != allWords || api.ErrStoreForm != storeForm || api.OK != 0 {
		t.Fatal("the limits of these tests are not those of package api")
	}
	if api.EventWrite != eventWrite || api.StepRun != 0 || api.StepDone != 6 || api.CodeWrite != 3 {
		t.Fatal("the numbers of these tests are not those of package api")
	}
	for word := range allWords {
		if !mach.May(writing(word)) {
			t.Fatalf("the machine of these tests for word %d may not be", word)
		}
	}
}

// These are written out whole, the answers too.
func TestOrdinary(t *testing.T) {
	m := api.Machine{
		Words: [4][]api.Word{{{Value: 4, Version: 6}}, {{Value: 5, Version: 2, Lock: 8}, {Value: 6, Version: 3, Lock: 6}}}, Clocks: [4]int{0, 2, 0, 0}, Ceiling: 9,
		Sessions: []api.Session{{Id: 5, Writes: []api.Write{{Level: 1, Value: 1}}, Stamp: 1}, {
			Id: 7, Label: 1, Clear: 3, Prog: []api.Inst{{Code: 5}, {Code: 3, A: 2, B: 1, C: 0}}, Pc: 1, Regs: [4]int{9, 8, 7, 6},
			Reads: []api.Read{{Level: 0, Index: 0, Version: 5}}, Writes: []api.Write{{Level: 1, Index: 1, Value: 50}}, At: 1, Stamp: 3, Tries: 8, Result: 2, Told: 44,
		}},
		Trace: []api.Event{{Id: 7, Label: 1, Value: 5}},
	}
	words := "{Words:[[{Value:4 Version:6 Lock:0}] [{Value:5 Version:2 Lock:8} {Value:6 Version:3 Lock:6}] [] []] Clocks:[0 2 0 0] Ceiling:9 Sessions:[" +
		"{Id:5 Label:0 Clear:0 Prog:[] Step:0 Pc:0 Regs:[0 0 0 0] Reads:[] Writes:[{Level:1 Index:0 Value:1}] At:0 Stamp:1 Tries:0 Result:0 Told:0} " +
		"{Id:7 Label:1 Clear:3 Prog:[{Code:5 A:0 B:0 C:0} {Code:3 A:2 B:%d C:%d}] Step:0 Pc:2 Regs:[9 8 7 6] Reads:[{Level:0 Index:0 Version:5}] " +
		"Writes:[%s] At:1 Stamp:3 Tries:8 Result:2 Told:44}] Trace:[{Id:7 Label:1 Kind:0 Value:5} {Id:7 Label:1 Kind:1 Value:7}]}"
	for _, each := range []struct {
		what         string
		level, index int
		writes       string
	}{
		{"ahead of its level's other", 1, 0, "{Level:1 Index:0 Value:7} {Level:1 Index:1 Value:50}"},
		{"in the other's place", 1, 1, "{Level:1 Index:1 Value:7}"},
		{"of a lower level", 0, 0, "{Level:0 Index:0 Value:7} {Level:1 Index:1 Value:50}"},
	} {
		m.Sessions[1].Prog[1].B, m.Sessions[1].Prog[1].C = each.level, each.index
		want := fmt.Sprintf(words, each.level, each.index, each.writes)
		if got, e := Step(m, 1); tell(got) != want || e != api.OK {
			t.Errorf("P16.1: %s: Step = %s, %d, want %s, 0", each.what, tell(got), e, want)
		}
	}
	m.Sessions[1].Prog[1].B = 2
	stepRefused(t, "a word that is not there", m, 1)
}

// Each word and each register, whatever the labels: no level is asked, neither above the label, nor below, nor beside.
func TestEachLabelAndWord(t *testing.T) {
	for at := range maxSessions {
		for _, pair := range labels {
			for word := range allWords {
				for register := range 4 {
					m := writing(word)
					put(m, at, spot{word, register, register % 3, 3, api.Inst{Code: 5}})
					m.Sessions[at].Label, m.Sessions[at].Clear = pair[0], pair[1]
					stepIs(t, m, at)
				}
			}
		}
	}
}

// Each value of each register is written and told, whatever the others hold.
func TestEachValue(t *testing.T) {
	for at := range maxSessions {
		for register := range 4 {
			for value := range 256 {
				for _, held := range []int{0, 255, 255 - value} {
					m := writing(9)
					m.Sessions[at].Prog[1].A = register
					m.Sessions[at].Regs = [4]int{held, held, held, held}
					m.Sessions[at].Regs[register] = value
					got := stepIs(t, m, at)
					if want := (api.Write{Level: 2, Index: 1, Value: value}); got.Sessions[at].Writes[2] != want {
						t.Fatalf("P16.1: of register %d, which is %d, the writes are %+v", register, value, got.Sessions[at].Writes)
					}
				}
			}
		}
	}
}

// Pc at every instruction of programs of every length, among instructions that would tell otherwise.
func TestEachPlaceOfAProgram(t *testing.T) {
	for n := 1; n <= maxInsts; n++ {
		for pc := range n {
			for at := range maxSessions {
				for _, around := range arounds {
					m := writing(6)
					put(m, at, spot{6, 2, pc, n, around})
					stepIs(t, m, at)
				}
			}
		}
	}
}

// Each session's place, of machines of each number of them; the others are as they begin, or not.
func TestEachPlace(t *testing.T) {
	for n := 1; n <= maxSessions; n++ {
		for at := range n {
			m := writing(9)
			m.Sessions = m.Sessions[:n]
			stepIs(t, m, at)
			for other := range n {
				if other != at {
					m.Sessions[other] = api.Session{Id: sample.Id(other)}
					stepIs(t, m, at)
				}
			}
		}
	}
}

// No such session, a machine that may not be, a Step but StepRun, a code but CodeWrite, a program's end: each where all else would do.
func TestRefused(t *testing.T) {
	ready := func(s *api.Session) { s.Step, s.Pc = 0, 1 }
	m := sample.Machine(4)
	for at := range m.Sessions {
		ready(&m.Sessions[at])
		stepIs(t, m, at)
	}
	wrongs := [][]sample.Wrong{sample.NoSession(ready), sample.MayNotBe(ready), sample.NotAt(api.Inst{Code: 3, A: 1, B: 1, C: 2}, 3)}
	for _, w := range slices.Concat(wrongs...) {
		stepRefused(t, w.What, w.Machine, w.At)
	}
}

// Several of these at once.
func TestSeveralAtOnce(t *testing.T) {
	for _, w := range sample.Several(func(int) api.Machine { return writing(6) },
		func(m *api.Machine, at int) { m.Sessions[at].Step = 5 },
		func(m *api.Machine, at int) { m.Sessions[at].Step = 1 },
		func(m *api.Machine, at int) { m.Sessions[at].Pc = 3 },
		func(m *api.Machine, at int) { m.Sessions[at].Pc = 2 },
		func(m *api.Machine, at int) { m.Sessions[at].Prog[1] = api.Inst{Code: 2, A: 1, B: 1, C: 2} },
		func(m *api.Machine, at int) { m.Sessions[at].Prog[1] = api.Inst{Code: 6} },
		func(m *api.Machine, at int) { m.Clocks[3] = -1 },
		func(m *api.Machine, at int) { m.Sessions[at].Regs[0] = 256 },
		func(m *api.Machine, at int) { m.Sessions[at].Writes = make([]api.Write, 2) },
		func(m *api.Machine, at int) { m.Sessions[3-at].Writes = sample.Writes(3, 3) },
		func(m *api.Machine, at int) { m.Sessions = m.Sessions[:at] },
	) {
		stepRefused(t, w.What, w.Machine, w.At)
	}
}

// The register itself may not be; instructions of registers, levels and words that are not there; words of a level that has fewer.
func TestWritesThatMayNotBe(t *testing.T) {
	for _, n := range []int{-1, 4, 5, 256, 1 << 32, math.MaxInt, math.MinInt} {
		for _, i := range []api.Inst{{Code: 3, A: n}, {Code: 3, B: n}, {Code: 3, C: n}, {Code: 3 + n}} {
			m := writing(6)
			m.Sessions[2].Prog[1] = i
			stepRefused(t, fmt.Sprintf("%+v", i), m, 2)
		}
	}
	for at := range maxSessions {
		for _, value := range []int{-1, 256, 257, math.MaxInt, math.MinInt} {
			m := writing(6)
			m.Sessions[at].Regs[at] = value
			stepRefused(t, fmt.Sprint("the register is ", value), m, at)
		}
	}
	for level := range 4 {
		for words := range 4 {
			for index := range 4 {
				m := writing(4*level + index)
				m.Words[level] = m.Words[level][:words]
				for at := range m.Sessions {
					m.Sessions[at].Reads, m.Sessions[at].Writes, m.Sessions[at].At = nil, nil, 0
				}
				if index < words {
					stepIs(t, m, 2)
				} else {
					stepRefused(t, fmt.Sprint("word ", index, " of ", words), m, 2)
				}
			}
		}
	}
}

// Writes of words that lie side by side, from none to all of them: each word ahead of them, behind, or among them already.
func TestWritesSideBySide(t *testing.T) {
	for at := range maxSessions {
		for word := range allWords {
			for first := range allWords {
				for end := first; end <= allWords; end++ {
					m := writing(word)
					m.Sessions[at].Writes, m.Sessions[at].At = sample.Writes(from(first, end)...), 0
					got := stepIs(t, m, at).Sessions[at].Writes
					place, more := min(max(word-first, 0), end-first), 1
					if word >= first && word < end {
						more = 0
					}
					want := api.Write{Level: word / 4, Index: word % 4, Value: m.Sessions[at].Regs[at]}
					if len(got) != end-first+more || got[place] != want {
						t.Fatalf("P16.1: with word %d the writes of %d to %d are %+v", word, first, end-1, got)
					}
				}
			}
		}
	}
}

// Writes of words from all over, of each number up to all others: the word between any two of them, and once more.
func TestWritesAllOver(t *testing.T) {
	for at := range maxSessions {
		for word := range allWords {
			for n := range allWords {
				m := writing(word)
				m.Sessions[at].Writes, m.Sessions[at].At = sample.Writes(sample.But(word, n)...), 0
				once := stepIs(t, m, at)
				if got := len(once.Sessions[at].Writes); got != n+1 {
					t.Fatalf("P16.1: behind %d writes there are %d", n, got)
				}
				put(once, at, spot{word, (at + 1) % 4, 0, 1, api.Inst{}})
				if got := len(stepIs(t, once, at).Sessions[at].Writes); got != n+1 {
					t.Fatalf("P16.1: of %d writes, with one of a word among them, there are %d", n+1, got)
				}
			}
		}
	}
}

// A word that is in Writes already, of another value or of the same one, at each place of each number of them.
func TestWritesOfOneWord(t *testing.T) {
	for at := range maxSessions {
		for n := 1; n <= allWords; n++ {
			words := sample.But(-1, n)
			for place, word := range words {
				for _, value := range []int{0, 1, 128, 255, 200 + word} {
					m := writing(word)
					m.Sessions[at].Writes, m.Sessions[at].At = sample.Writes(words...), n
					m.Sessions[at].Regs[at] = value
					want := sample.Writes(words...)
					want[place].Value = value
					if got := stepIs(t, m, at).Sessions[at].Writes; !slices.Equal(got, want) {
						t.Fatalf("P16.1: with %d of word %d the writes are %+v, want %+v", value, word, got, want)
					}
				}
			}
		}
	}
}

// How far it locked, or wrote, stays, from none of its writes to all of them.
func TestAtStays(t *testing.T) {
	for at := range maxSessions {
		for n := range allWords + 1 {
			for so := range n + 1 {
				m := writing(11)
				m.Sessions[at].Writes, m.Sessions[at].At = sample.Writes(from(0, n)...), so
				if got := stepIs(t, m, at).Sessions[at].At; got != so {
					t.Fatalf("P16.1: At is %d, was %d of %d", got, so, n)
				}
			}
		}
	}
}

// Whatever the word is, and whoever locks it, it stays as it is, and does not tell.
func TestNoWordTurns(t *testing.T) {
	for at := range maxSessions {
		for word := range allWords {
			for lock := range 256 {
				m := writing(word)
				*sample.Word(m, word) = api.Word{Value: 255 - lock, Version: 257 * lock, Lock: lock}
				got := stepIs(t, m, at)
				if fmt.Sprint(got.Words) != fmt.Sprint(m.Words) {
					t.Fatalf("P16.1: behind a write of word %d the words are %v, were %v", word, got.Words, m.Words)
				}
			}
		}
	}
}

// What it read, of this version or of another, this word or others, stays as it is, and does not hinder.
func TestReadsDoNotTell(t *testing.T) {
	for at := range maxSessions {
		for word := range allWords {
			for n := range allWords + 1 {
				m := writing(word)
				s := &m.Sessions[at]
				s.Reads = nil
				for k := range n {
					read := (word + 3*k) % allWords
					s.Reads = append(s.Reads, api.Read{Level: read / 4, Index: read % 4, Version: sample.Word(m, read).Version + k%2})
				}
				stepIs(t, m, at)
			}
		}
	}
}

// With room for one event there is one more, with none nothing is told, and all else is done.
func TestTraces(t *testing.T) {
	for _, n := range []int{0, 1, 2, 255, 256, 510, maxTrace - 1, maxTrace} {
		for at := range maxSessions {
			m := writing(6)
			m.Trace = sample.Trace(maxTrace + 9)[:n]
			got := stepIs(t, m, at)
			if want := min(n+1, maxTrace); len(got.Trace) != want || !slices.Equal(got.Trace[:n], m.Trace) {
				t.Errorf("P16.1: behind %d events there are %d, want %d", n, len(got.Trace), want)
			}
			if s := got.Sessions[at]; s.Pc != 2 || len(s.Writes) != 4 {
				t.Errorf("P16.1: behind %d events Pc is %d, the writes are %+v", n, s.Pc, s.Writes)
			}
		}
	}
}

// The event is of the session's Id and Label, and tells the value that the register has, whatever was to be written before.
func TestEvent(t *testing.T) {
	for at := range maxSessions {
		for label := range 4 {
			for word := range allWords {
				m := writing(word)
				m.Sessions[at].Label = label
				m.Sessions[at].Regs[at] = 16*word + label
				got := stepIs(t, m, at)
				want := api.Event{Id: sample.Id(at), Label: label, Kind: eventWrite, Value: 16*word + label}
				if last := got.Trace[len(got.Trace)-1]; last != want {
					t.Errorf("P16.1: %+v is told, want %+v", last, want)
				}
			}
		}
	}
}

// What else the session and the machine have, whatever it is, stays as it is, and is not asked.
func TestNothingElseTurns(t *testing.T) {
	for at := range maxSessions {
		for _, n := range []int{0, 1, 127, 254, 255} {
			for result := range 6 {
				m := writing(6)
				s := &m.Sessions[at]
				s.Told, s.Tries, s.Stamp, s.Result = n, 257*n, maxClock-257*n, result
				m.Ceiling, m.Clocks = maxClock, [4]int{n, 257 * n, maxClock, 0}
				stepIs(t, m, at)
			}
		}
		for step := range 7 {
			m := writing(6)
			for other := range m.Sessions {
				if other != at {
					m.Sessions[other].Step, m.Sessions[other].Pc, m.Sessions[other].Writes = step, other%3, sample.Writes(from(2, 9)...)
				}
			}
			stepIs(t, m, at)
		}
	}
}

// Programs as long as can be write each word once, in rows that rise, that fall and that do neither: then there are as many writes as there can be, and nothing stands there any more.
func TestOneBehindAnother(t *testing.T) {
	for at := range maxSessions {
		for _, by := range []int{1, 15, 5, 11} {
			m := writing(0)
			s := &m.Sessions[at]
			s.Prog, s.Pc, s.Writes, s.At = nil, 0, nil, 0
			for n := range maxInsts {
				word := (n + 1) * by % allWords
				s.Prog = append(s.Prog, api.Inst{Code: 3, A: n % 4, B: word / 4, C: word % 4})
			}
			for n := range maxInsts {
				m = stepIs(t, m, at)
				if got := len(m.Sessions[at].Writes); got != n+1 {
					t.Fatalf("P16.1: behind %d steps there are %d writes", n+1, got)
				}
			}
			for word, w := range m.Sessions[at].Writes {
				if w.Level != word/4 || w.Index != word%4 {
					t.Fatalf("P16.1: at %d of all writes is %+v", word, w)
				}
			}
			stepRefused(t, "the program's end", m, at)
		}
	}
}

// machines are some in which something is done, of each place of a word in Writes, and some that are refused.
func machines() []api.Machine {
	all := []api.Machine{{}, sample.Machine(0), sample.Machine(4)}
	for _, word := range []int{0, 1, 2, 6, 14, 15} {
		for _, n := range []int{0, 2, maxTrace - 1, maxTrace, maxTrace + 1} {
			m := writing(word)
			m.Trace = sample.Trace(n)
			all = append(all, m)
		}
	}
	for _, n := range []int{0, 1, 15, 16} {
		m := writing(15)
		for at := range m.Sessions {
			m.Sessions[at].Writes, m.Sessions[at].At = sample.Writes(from(0, n)...), 0
		}
		all = append(all, m)
	}
	for _, fault := range sample.Faults() {
		m := sample.Machine(4)
		m.Sessions[2].Step, m.Sessions[2].Pc = 0, 1
		fault(&m)
		all = append(all, m)
	}
	return all
}

// Nothing handed in is turned, kept or shared, and what is answered hangs on the arguments alone.
func TestRules(t *testing.T) {
	if broken := sample.AnyBrokenAt(machines(), Step); broken != "" {
		t.Error(broken)
	}
}

// One list that stands in a machine handed in several times stands in the answer as several.
func TestListsThatWereOne(t *testing.T) {
	prog, reads, writes := []api.Inst{{Code: 3}, {Code: 3, C: 1}, {Code: 3, B: 2, C: 2}}, []api.Read{{}}, sample.Writes(1, 3)
	for pc := range prog {
		m := sample.Tangled(api.Session{Prog: prog, Pc: pc, Reads: reads, Writes: writes})
		for at := range maxSessions {
			if sample.Shared(stepIs(t, m, at)) {
				t.Errorf("R4: two lists of an answer are one")
			}
		}
	}
}
