// Package sample is for tests alone: it holds machines to try a layer's call on, and what breaks them.
package sample

import (
	"slices"

	"veil/api"
)

// Id is that of the session at a place: a lock of 1 is that of the first, of 255 that of the last, and nobody's lock is 9 or 254.
func Id(at int) int {
	return [4]int{0, 1, 40, 254}[at]
}

// Session has a number of its own in each field; those of other places have others.
func Session(at int) api.Session {
	return api.Session{
		Id: Id(at), Label: 1, Clear: 3,
		Prog: []api.Inst{
			{Code: 2, A: 1, B: 3, C: 2}, {Code: 3, A: at, B: 1, C: 1}, {Code: 4, A: 2, B: 4}, {Code: 0, B: 200 + at}, {Code: 1, A: 3, B: 2}, {Code: 6, A: at},
		},
		Step: at + 1, Pc: at + 2, Regs: [4]int{at + 1, 9, 255, 4},
		Reads:  []api.Read{{Level: 3, Index: at, Version: 5 + at}, {Level: 0, Index: at, Version: 65535}},
		Writes: []api.Write{{Level: 0, Index: 1, Value: at}, {Level: 1, Index: 0, Value: 77}, {Level: 3, Index: 2, Value: 255}},
		At:     at%3 + 1, Stamp: 300 + at, Tries: 20 + at, Result: at + 1, Told: 120 + at,
	}
}

// Machine may be; it is of so many sessions, up to four, with something in each of its lists. At the words of each level stand locks of each session, of none, or of nobody that is there.
func Machine(sessions int) api.Machine {
	locks := [4][4]int{{1, 2, 41, 255}, {255, 0, 1, 9}, {2, 2, 1, 41}, {41, 254, 2, 1}}
	m := api.Machine{
		Clocks: [4]int{5, 0, 1000, 37}, Ceiling: 1000,
		Trace: []api.Event{{Id: 3, Label: 2, Kind: 4, Value: -6}, {Id: 900, Label: 3, Kind: 70, Value: 8}},
	}
	for level := range m.Words {
		for index, lock := range locks[level] {
			m.Words[level] = append(m.Words[level], api.Word{Value: 60*level + index, Version: 100*level + 7*index, Lock: lock})
		}
	}
	for at := range sessions {
		m.Sessions = append(m.Sessions, Session(at))
	}
	return m
}

// Trace is of n events, no two of which are the same.
func Trace(n int) []api.Event {
	var es []api.Event
	for at := range n {
		es = append(es, api.Event{Id: at, Label: at % 4, Kind: at % 7, Value: 1000 - at})
	}
	return es
}

// Copy is a machine of lists of its own, with no room behind them.
func Copy(m api.Machine) api.Machine {
	for level, list := range m.Words {
		m.Words[level] = room(list)
	}
	m.Sessions, m.Trace = room(m.Sessions), room(m.Trace)
	for at := range m.Sessions {
		s := &m.Sessions[at]
		s.Prog, s.Reads, s.Writes = room(s.Prog), room(s.Reads), room(s.Writes)
	}
	return m
}

// Roomy is a machine of lists of its own, with room behind each of them in which something lies.
func Roomy(m api.Machine) api.Machine {
	m = Copy(m)
	for level, list := range m.Words {
		m.Words[level] = room(list, api.Word{Value: 111, Lock: 1}, api.Word{Lock: 2})
	}
	for at := range m.Sessions {
		s := &m.Sessions[at]
		s.Prog = room(s.Prog, api.Inst{Code: 111}, api.Inst{A: 111})
		s.Reads = room(s.Reads, api.Read{Level: 111}, api.Read{Index: 111})
		s.Writes = room(s.Writes, api.Write{Level: 111}, api.Write{Index: 111})
	}
	m.Sessions = room(m.Sessions, Session(0), Session(3))
	m.Trace = room(m.Trace, api.Event{Id: 111}, api.Event{Kind: 111})
	return m
}

// room answers a list of its own memory, with those items and no others in the room behind it.
func room[T any](list []T, behind ...T) []T {
	all := slices.Concat(list, behind)
	return all[: len(list) : len(list)+len(behind)]
}

// Faults break a machine of four sessions, one thing each. All but the last, which leaves a word that is named not there, are wrong wherever they stand.
func Faults() []func(m *api.Machine) {
	return []func(m *api.Machine){
		func(m *api.Machine) { m.Words[1] = make([]api.Word, 5) },
		func(m *api.Machine) { m.Words[3][2].Lock = 256 },
		func(m *api.Machine) { m.Words[0][3].Lock = -1 },
		func(m *api.Machine) { m.Words[2][0].Value = 256 },
		func(m *api.Machine) { m.Words[2][1].Version = 65536 },
		func(m *api.Machine) { m.Ceiling = 65536 },
		func(m *api.Machine) { m.Clocks[0] = -1 },
		func(m *api.Machine) { m.Clocks[2] = 1001 },
		func(m *api.Machine) { m.Trace = make([]api.Event, 513) },
		func(m *api.Machine) { m.Trace[1].Label = 4 },
		func(m *api.Machine) { m.Sessions[2].Id = m.Sessions[1].Id },
		func(m *api.Machine) { m.Sessions[3].Id = 255 },
		func(m *api.Machine) { m.Sessions[0].Id = -1 },
		func(m *api.Machine) { m.Sessions[0].Label = 4 },
		func(m *api.Machine) { m.Sessions[3].Clear = 2 },
		func(m *api.Machine) { m.Sessions[0].Prog[3] = api.Inst{Code: 7} },
		func(m *api.Machine) { m.Sessions[1].Prog[2].B = 2 },
		func(m *api.Machine) { m.Words[1] = nil },
	}
}

// SessionFaults break a session, one thing each, in fields that calls write over: the machine may not be, whatever would be answered.
func SessionFaults() []func(s *api.Session) {
	return []func(s *api.Session){
		func(s *api.Session) { s.Step = 7 },
		func(s *api.Session) { s.Step = -1 },
		func(s *api.Session) { s.Pc = 7 },
		func(s *api.Session) { s.Pc = -1 },
		func(s *api.Session) { s.Regs[0] = -1 },
		func(s *api.Session) { s.Regs[3] = 256 },
		func(s *api.Session) { s.Reads[1] = s.Reads[0] },
		func(s *api.Session) { s.Reads[1].Level = 4 },
		func(s *api.Session) { s.Reads = make([]api.Read, 17) },
		func(s *api.Session) { s.Writes[0], s.Writes[1] = s.Writes[1], s.Writes[0] },
		func(s *api.Session) { s.Writes[2].Value = 256 },
		func(s *api.Session) { s.Writes = make([]api.Write, 17) },
		func(s *api.Session) { s.At = 4 },
		func(s *api.Session) { s.At = -1 },
		func(s *api.Session) { s.Stamp = 65536 },
		func(s *api.Session) { s.Tries = 65536 },
		func(s *api.Session) { s.Tries = -1 },
		func(s *api.Session) { s.Result = 6 },
		func(s *api.Session) { s.Result = -1 },
		func(s *api.Session) { s.Told = 256 },
		func(s *api.Session) { s.Told = -1 },
	}
}

// TooLong are machines with a list each that is far too long.
func TooLong() []api.Machine {
	const many = 1 << 18
	return []api.Machine{
		{Words: [4][]api.Word{nil, make([]api.Word, many)}, Sessions: make([]api.Session, 1)},
		{Sessions: make([]api.Session, many)},
		{Sessions: []api.Session{{Prog: make([]api.Inst, many)}}},
		{Sessions: []api.Session{{Reads: make([]api.Read, many)}}},
		{Sessions: []api.Session{{Writes: make([]api.Write, many)}}},
		{Sessions: make([]api.Session, 1), Trace: make([]api.Event, many)},
	}
}
