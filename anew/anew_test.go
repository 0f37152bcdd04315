package anew

import (
	"fmt"
	"testing"

	"veil/api"
)

// laid is a machine with something in each of its lists, and room behind each of them.
func laid() api.Machine {
	m := api.Machine{Clocks: [4]int{1, 2, 3, 4}, Ceiling: 9}
	for level := range m.Words {
		m.Words[level] = []api.Word{{Value: level}, {Version: level}, {Value: 7}}[:2]
	}
	for n := range 3 {
		m.Sessions = append(m.Sessions, api.Session{
			Id: n, Label: 1, Clear: 3, Step: 2, Pc: 1, Regs: [4]int{1, 2, 3, 4}, At: 1, Stamp: 5, Tries: 6, Result: 1, Told: 8,
			Prog:   []api.Inst{{Code: 5}, {B: n}, {Code: 6}}[:2],
			Reads:  []api.Read{{Level: 1}, {Version: n}, {Index: 3}}[:2],
			Writes: []api.Write{{Value: 1}, {Value: n}, {Level: 3}}[:2],
		})
	}
	m.Sessions = m.Sessions[:2]
	m.Trace = []api.Event{{Id: 1}, {Label: 2}, {Kind: 3}}[:2]
	return m
}

// whole tells a machine with what lies in its lists' room.
func whole(m api.Machine) string {
	for level, list := range m.Words {
		m.Words[level] = list[:cap(list)]
	}
	all := fmt.Sprintf("%+v%+v", m, m.Trace[:cap(m.Trace)])
	for _, s := range m.Sessions[:cap(m.Sessions)] {
		all += fmt.Sprintf("%+v%+v%+v%+v", s, s.Prog[:cap(s.Prog)], s.Reads[:cap(s.Reads)], s.Writes[:cap(s.Writes)])
	}
	return all
}

// fill writes over a list and its room.
func fill[T any](list []T, with T) {
	list = list[:cap(list)]
	for at := range list {
		list[at] = with
	}
}

// scribble writes over all the lists of a machine.
func scribble(m api.Machine) {
	for _, s := range m.Sessions {
		fill(s.Prog, api.Inst{Code: -9})
		fill(s.Reads, api.Read{Level: -9})
		fill(s.Writes, api.Write{Level: -9})
	}
	for _, list := range m.Words {
		fill(list, api.Word{Value: -9})
	}
	fill(m.Sessions, api.Session{Id: -9})
	fill(m.Trace, api.Event{Id: -9})
}

func TestMachine(t *testing.T) {
	m := laid()
	want, old := fmt.Sprintf("%+v", m), whole(m)
	first, second := Machine(m), Machine(m)
	scribble(first)
	if whole(m) != old {
		t.Errorf("writing over a copy turned what was copied: %s, was %s", whole(m), old)
	}
	scribble(m)
	if got := fmt.Sprintf("%+v", second); got != want {
		t.Errorf("Machine = %s, want %s", got, want)
	}
}

func TestWords(t *testing.T) {
	m := laid()
	want, old := fmt.Sprintf("%+v", m.Words), whole(m)
	first, second := Words(m.Words), Words(m.Words)
	scribble(api.Machine{Words: first})
	if whole(m) != old {
		t.Errorf("writing over a copy turned what was copied: %s, was %s", whole(m), old)
	}
	scribble(m)
	if got := fmt.Sprintf("%+v", second); got != want {
		t.Errorf("Words = %s, want %s", got, want)
	}
}

// A copy of no item is nil: it holds no place, and none behind it.
func TestNothing(t *testing.T) {
	for _, none := range [][]int{nil, {}, make([]int, 0, 9), []int{1, 2, 3}[1:1]} {
		if got := List(none); got != nil {
			t.Errorf("List of nothing is %v, want nil", got)
		}
	}
	if got := fmt.Sprintf("%#v", Machine(api.Machine{Sessions: []api.Session{}, Trace: []api.Event{}})); got != fmt.Sprintf("%#v", api.Machine{}) {
		t.Errorf("Machine of nothing is %s", got)
	}
}
