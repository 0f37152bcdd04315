package grab

import (
	"fmt"
	"math"
	"slices"
	"testing"

	"veil/api"
	"veil/mach"
	"veil/sample"
	"veil/trial"
	"veil/undo"
)

// The limits are written out as numbers, so that they share no name with what they test.
const (
	maxSessions   = 4
	maxTrace      = 512
	maxId         = 254
	maxClock      = 65535
	allWords      = 16
	stepGrab      = 1
	stepStamp     = 2
	eventConflict = 3
	grabForm      = 1800
)

// labels are each label that may be and each clearance that it is below.
var labels = [][2]int{{0, 0}, {0, 1}, {0, 2}, {0, 3}, {1, 1}, {1, 3}, {2, 2}, {2, 3}, {3, 3}}

// put sets the session at a place where so many of these words are grabbed already, as its At tells.
func put(m api.Machine, at int, so int, words ...int) {
	s := &m.Sessions[at]
	s.Step, s.At, s.Writes = stepGrab, so, sample.Writes(words...)
}

// grabbing is a machine of four sessions that all are to grab the first of these words. None is locked.
func grabbing(words ...int) api.Machine {
	m := sample.Unlocked(4)
	for at := range m.Sessions {
		put(m, at, 0, words...)
	}
	return m
}

// tell is a machine whole, each field by its name; an empty list and nil are one there.
func tell(m api.Machine) string { return fmt.Sprintf("%+v", m) }

// wantStep is what Step must answer of a session that is to grab a word.
func wantStep(m api.Machine, at int) api.Machine {
	s := m.Sessions[at]
	write := s.Writes[s.At]
	if m.Words[write.Level][write.Index].Lock != 0 {
		m, _ = undo.Again(m, at, eventConflict)
		return m
	}
	m = sample.Copy(m)
	m.Words[write.Level][write.Index].Lock = s.Id + 1
	m.Sessions[at].At = s.At + 1
	if len(s.Writes) == s.At+1 {
		m.Sessions[at].Step = stepStamp
	}
	return m
}

var layer = trial.Layer{Promise: "P18.1", Step: Step, Refusal: grabForm, Want: wantStep}

// grabs answers what Step does, if it grabbed a word.
func grabs(t *testing.T, m api.Machine, at int) api.Machine {
	t.Helper()
	got := layer.Is(t, m, at)
	if s := got.Sessions[at]; s.At != m.Sessions[at].At+1 || s.Step != stepGrab && s.Step != stepStamp || len(got.Trace) != len(m.Trace) {
		t.Fatalf("P18.1: Step(%s, %d) = %s, want one word grabbed", tell(m), at, tell(got))
	}
	return got
}

// conflicts answers what Step does, if it began anew.
func conflicts(t *testing.T, m api.Machine, at int) api.Machine {
	t.Helper()
	got := layer.Is(t, m, at)
	s := got.Sessions[at]
	if s.Step != 0 || s.Pc != 0 || s.Regs != [4]int{} || len(s.Reads)+len(s.Writes)+s.At+s.Stamp != 0 || s.Tries != min(m.Sessions[at].Tries+1, maxClock) {
		t.Fatalf("P18.1: Step(%s, %d) = %s, want it anew", tell(m), at, tell(got))
	}
	return got
}

func TestLimits(t *testing.T) {
	if api.MaxSessions != maxSessions || api.MaxTrace != maxTrace || api.MaxId != maxId || api.MaxClock != maxClock || api.Levels*api.MaxWords != allWords {
		t.Fatal("the limits of these tests are not those of package api")
	}
	if api.ErrGrabForm != grabForm || api.OK != 0 || api.StepRun != 0 || api.StepGrab != stepGrab || api.StepStamp != stepStamp || api.StepDone != 6 || api.EventConflict != eventConflict {
		t.Fatal("the numbers of these tests are not those of package api")
	}
	for word := range allWords {
		if !mach.May(grabbing(word)) {
			t.Fatalf("the machine of these tests for word %d may not be", word)
		}
	}
}

// These are written out whole, the answers too.
func TestOrdinary(t *testing.T) {
	m := api.Machine{
		Words: [4][]api.Word{{{Value: 4, Version: 6, Lock: 6}}, {{Value: 5, Version: 2}, {Value: 6, Version: 3}}}, Clocks: [4]int{0, 3, 0, 0}, Ceiling: 9,
		Sessions: []api.Session{{Id: 5, Writes: []api.Write{{}}, At: 1}, {
			Id: 7, Label: 1, Clear: 3, Prog: []api.Inst{{Code: 3, A: 2, B: 1}, {Code: 3, B: 1, C: 1}}, Step: 1, Pc: 2, Regs: [4]int{1, 2, 3, 4},
			Reads: []api.Read{{Level: 0, Version: 5}}, Writes: []api.Write{{Level: 1, Value: 50}, {Level: 1, Index: 1, Value: 60}}, Stamp: 3, Tries: 8, Result: 2, Told: 44,
		}},
		Trace: []api.Event{{Id: 7, Label: 1, Kind: 1, Value: 5}},
	}
	whole := "{Words:[[{Value:4 Version:6 Lock:6}] [{Value:5 Version:2 Lock:%d} {Value:6 Version:3 Lock:%d}] [] []] Clocks:[0 3 0 0] Ceiling:9 Sessions:[" +
		"{Id:5 Label:0 Clear:0 Prog:[] Step:0 Pc:0 Regs:[0 0 0 0] Reads:[] Writes:[{Level:0 Index:0 Value:0}] At:1 Stamp:0 Tries:0 Result:0 Told:0} " +
		"{Id:7 Label:1 Clear:3 Prog:[{Code:3 A:2 B:1 C:0} {Code:3 A:0 B:1 C:1}] %s Result:2 Told:44}] Trace:[{Id:7 Label:1 Kind:1 Value:5}%s]}"
	held := "Step:%d Pc:2 Regs:[1 2 3 4] Reads:[{Level:0 Index:0 Version:5}] Writes:[{Level:1 Index:0 Value:50} {Level:1 Index:1 Value:60}] At:%d Stamp:3 Tries:8"
	anew := "Step:0 Pc:0 Regs:[0 0 0 0] Reads:[] Writes:[] At:0 Stamp:0 Tries:9"
	ordinaryIs(t, "the first", m, fmt.Sprintf(whole, 8, 0, fmt.Sprintf(held, 1, 1), ""))
	m.Words[1][0].Lock, m.Sessions[1].At = 8, 1
	ordinaryIs(t, "the last", m, fmt.Sprintf(whole, 8, 8, fmt.Sprintf(held, 2, 2), ""))
	for _, lock := range []int{6, 8, 9} {
		m.Words[1][1].Lock = lock
		left := lock
		if lock == 8 {
			left = 0
		}
		ordinaryIs(t, fmt.Sprint("a word of lock ", lock), m, fmt.Sprintf(whole, 0, left, anew, " {Id:7 Label:1 Kind:3 Value:9}"))
	}
	m.Sessions[1].At = 2
	layer.Refused(t, "no write that is left", m, 1)
}

func ordinaryIs(t *testing.T, what string, m api.Machine, want string) {
	t.Helper()
	if got, e := Step(m, 1); tell(got) != want || e != api.OK {
		t.Errorf("P18.1: %s: Step = %s, %d, want %s, 0", what, tell(got), e, want)
	}
}

// Each word, free and locked: the only one, the first, the last and the middle one of some that are all over the levels.
func TestEachWord(t *testing.T) {
	for at := range maxSessions {
		for word := range allWords {
			eachWordIs(t, at, 0, word)
			for n := 1; n < allWords; n++ {
				words := append(sample.But(word, n), word)
				slices.Sort(words)
				eachWordIs(t, at, slices.Index(words, word), words...)
			}
		}
	}
}

// eachWordIs asks of one of these words, where those ahead of it are grabbed.
func eachWordIs(t *testing.T, at int, so int, words ...int) {
	t.Helper()
	m := grabbing()
	put(m, at, so, words...)
	mine := sample.Id(at) + 1
	for _, word := range words[:so] {
		sample.Word(m, word).Lock = mine
	}
	got := grabs(t, m, at)
	if w := *sample.Word(got, words[so]); w.Lock != mine || w.Value != sample.Word(m, words[so]).Value {
		t.Fatalf("P18.1: word %d is %+v then", words[so], w)
	}
	if last := got.Sessions[at].Step == stepStamp; last != (so == len(words)-1) {
		t.Fatalf("P18.1: behind write %d of %d the Step is %d", so, len(words), got.Sessions[at].Step)
	}
	for _, lock := range []int{mine, 9, mine%255 + 1} {
		sample.Word(m, words[so]).Lock = lock
		conflicts(t, m, at)
	}
}

// At is each number from 0 to how many writes there are, of each number of them: that many is refused, of none too.
func TestEachAt(t *testing.T) {
	for at := range maxSessions {
		for n := range allWords + 1 {
			for so := range n + 1 {
				m := grabbing()
				put(m, at, so, sample.But(-1, n)...)
				if so == n {
					layer.Refused(t, fmt.Sprint("At is all of ", n, " writes"), m, at)
					continue
				}
				grabs(t, m, at)
			}
		}
	}
}

// Behind its writes lies one more, which is none of them.
func TestRoomBehindWrites(t *testing.T) {
	for at := range maxSessions {
		for n := range allWords {
			m := grabbing()
			put(m, at, n, sample.But(-1, n+1)...)
			m.Sessions[at].Writes = m.Sessions[at].Writes[:n]
			layer.Refused(t, fmt.Sprint("a write in the room behind ", n), m, at)
			if n > 0 {
				m.Sessions[at].At = n - 1
				if got := grabs(t, m, at).Sessions[at].Step; got != stepStamp {
					t.Fatalf("P18.1: behind the last of %d writes the Step is %d", n, got)
				}
			}
		}
	}
}

// Each Id that there may be, each lock that there may be: that of the Id, too.
func TestEachIdAndLock(t *testing.T) {
	m := api.Machine{Words: [4][]api.Word{2: {{Value: 3, Version: 4}, {Value: 5, Version: 6}}}}
	m.Sessions = []api.Session{{Step: stepGrab, Writes: []api.Write{{Level: 2, Index: 1, Value: 9}}}}
	for id := range maxId + 1 {
		m.Sessions[0].Id = id
		for lock := range maxId + 2 {
			m.Words[2][1].Lock = lock
			got := layer.Is(t, m, 0)
			left := lock
			switch lock {
			case 0:
				left = id + 1
			case id + 1:
				left = 0
			}
			if want := (api.Word{Value: 5, Version: 6, Lock: left}); got.Words[2][1] != want || (len(got.Trace) == 0) != (lock == 0) {
				t.Fatalf("P18.1: by Id %d a word of lock %d is %+v then, want %+v", id, lock, got.Words[2][1], want)
			}
		}
	}
}

// Each value and versions from the first to the last stay, of the word that is grabbed and of that which is locked; so does what is to be written.
func TestValuesAndVersions(t *testing.T) {
	for at := range maxSessions {
		for value := range 256 {
			for _, version := range []int{0, 1, 255 - value, 257 * value, maxClock} {
				m := grabbing(13)
				m.Sessions[at].Writes[0].Value = 255 - value
				*sample.Word(m, 13) = api.Word{Value: value, Version: version}
				want := api.Word{Value: value, Version: version, Lock: sample.Id(at) + 1}
				if got := grabs(t, m, at); *sample.Word(got, 13) != want {
					t.Fatalf("P18.1: the word is %+v, want %+v", *sample.Word(got, 13), want)
				}
				sample.Word(m, 13).Lock = 9
				conflicts(t, m, at)
			}
		}
	}
}

// Locks of whatever other word hinder nothing, be it in its writes or not, and stay.
func TestOtherLocks(t *testing.T) {
	for at := range maxSessions {
		for word := range allWords {
			for _, lock := range []int{1, 2, 9, 41, 255} {
				for _, words := range [][]int{{word}, sample.But(-1, allWords)} {
					m := grabbing()
					put(m, at, slices.Index(words, word), words...)
					for other := range allWords {
						if other != word {
							sample.Word(m, other).Lock = lock
						}
					}
					grabs(t, m, at)
					sample.Word(m, word).Lock = lock
					conflicts(t, m, at)
				}
			}
		}
	}
}

// Each session's place, of machines of each number of them; the others are as they begin, or not.
func TestEachPlace(t *testing.T) {
	for n := 1; n <= maxSessions; n++ {
		for at := range n {
			for _, word := range []int{1, 6, 15} {
				m := grabbing(0, 1, 6, 15)
				m.Sessions[at].At = slices.Index([]int{0, 1, 6, 15}, word)
				m.Sessions = m.Sessions[:n]
				grabs(t, m, at)
				for other := range n {
					if other != at {
						m.Sessions[other] = api.Session{Id: sample.Id(other)}
						grabs(t, m, at)
					}
				}
				sample.Word(m, word).Lock = sample.Id((at+1)%4) + 1
				conflicts(t, m, at)
			}
		}
	}
}

// No such session, a machine that may not be: each where all else would do.
func TestRefused(t *testing.T) {
	ready := func(s *api.Session) { s.Step, s.At = stepGrab, 1 }
	m := sample.Unlocked(4)
	for at := range m.Sessions {
		ready(&m.Sessions[at])
		grabs(t, m, at)
	}
	layer.AllRefused(t, sample.NoSession(ready))
	layer.AllRefused(t, sample.MayNotBe(ready))
}

// Each Step but StepGrab, wherever At is, whether the word is free or not.
func TestOtherSteps(t *testing.T) {
	for at := range maxSessions {
		for step := range 7 {
			for so := range 4 {
				for _, lock := range []int{0, 9, sample.Id(at) + 1} {
					m := grabbing()
					put(m, at, so, 5, 9, 14)
					m.Sessions[at].Step = step
					sample.Word(m, 9).Lock = lock
					if step == stepGrab && so < 3 {
						layer.Is(t, m, at)
					} else {
						layer.Refused(t, fmt.Sprint("Step ", step, ", At ", so), m, at)
					}
				}
			}
		}
	}
}

// Several of these at once.
func TestSeveralAtOnce(t *testing.T) {
	for _, lock := range []int{0, 9} {
		would := func(int) api.Machine {
			m := grabbing(2, 6, 11)
			sample.Word(m, 2).Lock = lock
			return m
		}
		layer.AllRefused(t, sample.Several(would,
			func(m *api.Machine, at int) { m.Sessions[at].Step = 0 },
			func(m *api.Machine, at int) { m.Sessions[at].Step = 2 },
			func(m *api.Machine, at int) { m.Sessions[at].Step = 4 },
			func(m *api.Machine, at int) { m.Sessions[at].Writes, m.Sessions[at].At = nil, 0 },
			func(m *api.Machine, at int) { m.Sessions[at].At = len(m.Sessions[at].Writes) },
			func(m *api.Machine, at int) { m.Sessions[at].At = 4 },
			func(m *api.Machine, at int) { m.Words[3][3].Lock = 256 },
			func(m *api.Machine, at int) { m.Sessions[at].Regs[2] = -1 },
			func(m *api.Machine, at int) { m.Sessions[3-at].Writes = make([]api.Write, 2) },
			func(m *api.Machine, at int) { m.Ceiling = 0 },
			func(m *api.Machine, at int) { m.Trace = sample.Trace(maxTrace + 1) },
			func(m *api.Machine, at int) { m.Sessions = m.Sessions[:at] },
		))
	}
}

// Writes that may not be, and words of a level that has fewer.
func TestWritesThatMayNotBe(t *testing.T) {
	var wrong [][]api.Write
	for _, n := range []int{-1, 4, 5, 256, 1 << 32, math.MaxInt, math.MinInt} {
		wrong = append(wrong, []api.Write{{Level: n}}, []api.Write{{Index: n}}, []api.Write{{Level: n, Index: n}})
	}
	for _, value := range []int{-1, 256, 257, 1 << 32, math.MaxInt, math.MinInt} {
		wrong = append(wrong, []api.Write{{Value: value}}, []api.Write{{}, {Index: 1, Value: value}})
	}
	wrong = append(wrong, sample.Writes(5, 5), sample.Writes(6, 5), sample.Writes(4, 3), make([]api.Write, 17))
	for at := range maxSessions {
		for _, writes := range wrong {
			m := grabbing()
			m.Sessions[at].Writes = writes
			layer.Refused(t, fmt.Sprintf("%+v", writes), m, at)
		}
		for _, so := range []int{-1, -2, 2, 3, 4, 256, 1 << 32, math.MaxInt, math.MinInt} {
			m := grabbing(5, 6)
			m.Sessions[at].At = so
			layer.Refused(t, fmt.Sprint("At is ", so, " of 2"), m, at)
		}
	}
	for word := range allWords {
		for words := range 4 {
			m := grabbing(word)
			m.Words[word/4] = m.Words[word/4][:words]
			for at := range m.Sessions {
				m.Sessions[at].Prog, m.Sessions[at].Pc, m.Sessions[at].Reads = nil, 0, nil
			}
			if word%4 < words {
				grabs(t, m, 2)
			} else {
				layer.Refused(t, fmt.Sprint("word ", word%4, " of ", words), m, 2)
			}
		}
	}
}

// All words are locked by one: by the session itself, by one whose Id is next to its own, by nobody that is there. Then those that are its own are free, on all levels, and no others.
func TestConflictFreesItsOwn(t *testing.T) {
	for at := range maxSessions {
		mine := sample.Id(at) + 1
		for word := range allWords {
			for its := range allWords {
				for _, other := range []int{max(mine-1, 1), mine%255 + 1, 9, 255, mine} {
					m := grabbing(word)
					for which := range allWords {
						sample.Word(m, which).Lock = other
					}
					sample.Word(m, its).Lock = mine
					got := conflicts(t, m, at)
					for which := range allWords {
						want := other
						if which == its || other == mine {
							want = 0
						}
						if lock := sample.Word(got, which).Lock; lock != want {
							t.Fatalf("P18.1: behind a conflict at word %d word %d has lock %d, want %d", word, which, lock, want)
						}
					}
				}
			}
		}
	}
}

// The event tells the Id, the label and the number of tries behind this one, up to the most of them.
func TestEvent(t *testing.T) {
	for at := range maxSessions {
		for label := range 4 {
			for _, tries := range []int{0, 1, 254, 255, 256, maxClock - 1, maxClock} {
				m := grabbing(10)
				m.Sessions[at].Label, m.Sessions[at].Tries = label, tries
				sample.Word(m, 10).Lock = 9
				got := conflicts(t, m, at).Trace
				want := api.Event{Id: sample.Id(at), Label: label, Kind: eventConflict, Value: min(tries+1, maxClock)}
				if len(got) != 3 || got[2] != want {
					t.Errorf("P18.1: %+v is told, want %+v last", got, want)
				}
			}
		}
	}
}

// A grab tells nothing, a conflict one event where there is room for it.
func TestTraces(t *testing.T) {
	for _, n := range []int{0, 1, 2, 255, 256, 510, maxTrace - 1, maxTrace} {
		for at := range maxSessions {
			m := grabbing(3, 8)
			m.Trace = sample.Trace(maxTrace + 9)[:n]
			if got := grabs(t, m, at).Trace; !slices.Equal(got, m.Trace) {
				t.Errorf("P18.1: behind %d events a grab leaves %d", n, len(got))
			}
			sample.Word(m, 3).Lock = 9
			if got, want := conflicts(t, m, at).Trace, min(n+1, maxTrace); len(got) != want || !slices.Equal(got[:n], m.Trace) {
				t.Errorf("P18.1: behind %d events a conflict leaves %d, want %d", n, len(got), want)
			}
		}
	}
}

// What else the session and the machine have, whatever it is, stays as it is, and is not asked.
func TestNothingElseTurns(t *testing.T) {
	for at := range maxSessions {
		for _, n := range []int{0, 1, 127, 254, 255} {
			for result := range 6 {
				m := grabbing(6, 7)
				s := &m.Sessions[at]
				s.Told, s.Tries, s.Stamp, s.Result, s.Regs = n, 257*n, maxClock-257*n, result, [4]int{n, 0, 255, 255 - n}
				s.Pc = (n + result) % 7
				m.Ceiling, m.Clocks = maxClock, [4]int{n, 257 * n, maxClock, 0}
				grabs(t, m, at)
				sample.Word(m, 6).Lock = 255 - n/2
				conflicts(t, m, at)
			}
		}
		for step := range 7 {
			m := grabbing(6, 7)
			for other := range m.Sessions {
				if other != at {
					m.Sessions[other].Step, m.Sessions[other].Pc, m.Sessions[other].At = step, other%3, step%3
				}
			}
			grabs(t, m, at)
		}
	}
}

// No level is asked, neither of the words nor of the label; and what was read, of its version or of another, locked by another or not, is not asked either.
func TestLabelsAndReadsDoNotTell(t *testing.T) {
	for at := range maxSessions {
		for word := range allWords {
			for _, pair := range labels {
				m := grabbing(word)
				m.Sessions[at].Label, m.Sessions[at].Clear = pair[0], pair[1]
				grabs(t, m, at)
			}
			for n := range allWords {
				m := grabbing(word)
				m.Sessions[at].Reads = sample.Reads(m, append(sample.But(word, n), word)...)
				grabs(t, m, at)
				for which := range m.Sessions[at].Reads {
					m.Sessions[at].Reads[which].Version += which % 2
				}
				for _, other := range sample.But(word, n) {
					sample.Word(m, other).Lock = 9 + other
				}
				grabs(t, m, at)
				m.Sessions[at].Reads[n].Version++
				grabs(t, m, at)
			}
		}
	}
}

// One behind the other, in the row of its writes, until all are locked; then nothing is left to grab.
func TestOneBehindAnother(t *testing.T) {
	for at := range maxSessions {
		for n := 1; n <= allWords; n++ {
			words := sample.But(-1, n)
			m := grabbing(words...)
			for so := range n {
				m = grabs(t, m, at)
				for word := range allWords {
					locked := slices.Contains(words[:so+1], word)
					if got := sample.Word(m, word).Lock; got != 0 && !locked || got != sample.Id(at)+1 && locked {
						t.Fatalf("P18.1: behind %d grabs of %v word %d has lock %d", so+1, words, word, got)
					}
				}
			}
			if s := m.Sessions[at]; s.Step != stepStamp || s.At != n || len(s.Writes) != n {
				t.Fatalf("P18.1: behind all %d grabs the session is %+v", n, s)
			}
			layer.Refused(t, "all is grabbed", m, at)
			m.Sessions[at].Step = stepGrab
			layer.Refused(t, "all is grabbed, and it is at StepGrab", m, at)
		}
	}
}

// Where one of them is locked by another all ahead of it are grabbed, and free again behind the conflict.
func TestOneOfThemIsLocked(t *testing.T) {
	for at := range maxSessions {
		for n := 1; n <= allWords; n++ {
			words := sample.But(-1, n)
			for taken, word := range words {
				m := grabbing(words...)
				sample.Word(m, word).Lock = sample.Id((at+1)%maxSessions) + 1
				want := fmt.Sprint(m.Words)
				for range taken {
					m = grabs(t, m, at)
				}
				m = conflicts(t, m, at)
				if got := fmt.Sprint(m.Words); got != want {
					t.Fatalf("P18.1: behind a conflict at %d of %v the words are %s, want %s", taken, words, got, want)
				}
				layer.Refused(t, "it began anew", m, at)
			}
		}
	}
}

// Of two sessions that are to write one word just one grabs it, in whichever row they come, and with whatever words beside it.
func TestTwoOfOneWord(t *testing.T) {
	for one := range maxSessions {
		for two := range maxSessions {
			for word := range allWords {
				if one == two {
					continue
				}
				m := conflicts(t, grabs(t, grabbing(word), one), two)
				if got, want := sample.Word(m, word).Lock, sample.Id(one)+1; got != want {
					t.Fatalf("P18.1: word %d has lock %d behind %d and %d, want %d", word, got, one, two, want)
				}
				m = grabbing()
				words := append(sample.But(word, 2), word)
				slices.Sort(words)
				put(m, one, 0, word)
				put(m, two, 0, words...)
				m = grabs(t, m, one)
				for range slices.Index(words, word) {
					m = grabs(t, m, two)
				}
				m = conflicts(t, m, two)
				for other := range allWords {
					if got := sample.Word(m, other).Lock; got != 0 && other != word {
						t.Fatalf("P18.1: word %d has lock %d behind a conflict at word %d", other, got, word)
					}
				}
			}
		}
	}
}

// Sessions of other words do not hinder one another.
func TestTwoOfOtherWords(t *testing.T) {
	m := grabbing()
	for at := range maxSessions {
		put(m, at, 0, at, at+4, at+8, at+12)
	}
	for n := range allWords {
		m = grabs(t, m, n*3%4)
	}
	for word := range allWords {
		if got, want := sample.Word(m, word).Lock, sample.Id(word%4)+1; got != want {
			t.Errorf("P18.1: word %d has lock %d, want %d", word, got, want)
		}
	}
}

// machines are some in which a word is grabbed, the last one or not, some in which it is locked, and some that are refused.
func machines() []api.Machine {
	all := []api.Machine{{}, sample.Machine(0), sample.Machine(4)}
	for _, n := range []int{0, 2, maxTrace - 1, maxTrace, maxTrace + 1} {
		for _, lock := range []int{0, 9, 2} {
			m := grabbing(5, 10)
			m.Trace = sample.Trace(n)
			sample.Word(m, 5).Lock = lock
			m.Sessions[3].At = 1
			all = append(all, m)
		}
	}
	for _, words := range [][]int{nil, {0}, {15}, sample.But(-1, allWords)} {
		all = append(all, grabbing(words...))
	}
	for _, fault := range sample.Faults() {
		m := grabbing(2, 3)
		m.Sessions[0] = sample.Session(0)
		m.Sessions[1] = sample.Session(1)
		fault(&m)
		all = append(all, m)
	}
	return all
}

// Nothing handed in is turned, kept or shared, and what is answered hangs on the arguments alone.
func TestRules(t *testing.T) {
	if broken := sample.AnyBrokenAt(machines(), Step); broken != "" {
		t.Error(broken)
	}
}

// One list that stands in a machine handed in several times stands in the answer as several.
func TestListsThatWereOne(t *testing.T) {
	prog, reads, writes := []api.Inst{{Code: 5}}, []api.Read{{}}, sample.Writes(1, 6, 12)
	for so, write := range writes {
		m := sample.Tangled(api.Session{Prog: prog, Step: stepGrab, Reads: reads, Writes: writes, At: so})
		layer.EachIs(t, m)
		m.Words[write.Level][write.Index].Lock = 2
		layer.EachIs(t, m)
	}
}
