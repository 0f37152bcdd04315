package sample

import (
	"reflect"
	"slices"
	"testing"

	"veil/api"
	"veil/mach"
)

func TestWord(t *testing.T) {
	m := Machine(1)
	for word := range 16 {
		if want := &m.Words[word/4][word%4]; Word(m, word) != want {
			t.Errorf("word %d is %+v, want %+v", word, *Word(m, word), *want)
		}
	}
}

// Of each number that there can be, without each word, and without one that is not there.
func TestBut(t *testing.T) {
	for word := -1; word < 16; word++ {
		for n := range 16 {
			words := But(word, n)
			if len(words) != n || slices.Contains(words, word) || !slices.IsSorted(words) || len(slices.Compact(slices.Clone(words))) != n {
				t.Errorf("%d words but %d are %v", n, word, words)
			}
			if n > 0 && (words[0] < 0 || words[n-1] > 15) {
				t.Errorf("%d words but %d are %v", n, word, words)
			}
		}
	}
	if words := But(-1, 16); len(words) != 16 {
		t.Errorf("all words are %v", words)
	}
}

func TestReadsAndWrites(t *testing.T) {
	m := Machine(1)
	s := &m.Sessions[0]
	s.Reads, s.Writes, s.At = Reads(m, 9, 2, 15), Writes(2, 9, 15), 0
	reads := []api.Read{{Level: 2, Index: 1, Version: 207}, {Level: 0, Index: 2, Version: 14}, {Level: 3, Index: 3, Version: 321}}
	writes := []api.Write{{Level: 0, Index: 2, Value: 202}, {Level: 2, Index: 1, Value: 209}, {Level: 3, Index: 3, Value: 215}}
	if !slices.Equal(s.Reads, reads) || !slices.Equal(s.Writes, writes) || !mach.May(m) {
		t.Errorf("the reads are %+v, the writes %+v, want %+v, %+v", s.Reads, s.Writes, reads, writes)
	}
	if Reads(m) != nil || Writes() != nil {
		t.Error("of no words there are some")
	}
}

func TestUnlocked(t *testing.T) {
	for n := range 5 {
		m, want := Unlocked(n), Machine(n)
		for word := range 16 {
			Word(want, word).Lock = 0
		}
		if tell(m) != tell(want) || !mach.May(m) {
			t.Errorf("it is %s, want %s", tell(m), tell(want))
		}
	}
}

// All four of each kind of list lie in one place.
func TestTangled(t *testing.T) {
	m := Tangled(api.Session{Prog: []api.Inst{{Code: 5}}, Step: 3, Reads: []api.Read{{Index: 3}}, Writes: Writes(1, 6), At: 1})
	if !mach.May(m) || len(m.Sessions) != 4 {
		t.Fatalf("%s may not be", tell(m))
	}
	for at, s := range m.Sessions {
		first := m.Sessions[0]
		if s.Id != at || &s.Prog[0] != &first.Prog[0] || &s.Reads[0] != &first.Reads[0] || &s.Writes[0] != &first.Writes[0] || &m.Words[at][0] != &m.Words[0][0] {
			t.Errorf("session %d is %+v", at, s)
		}
		s.Id = 0
		if !reflect.DeepEqual(s, first) {
			t.Errorf("session %d is like %+v, want %+v", at, s, first)
		}
	}
}
