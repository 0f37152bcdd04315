package sample

import (
	"math"
	"slices"
	"strconv"

	"veil/api"
)

// Wrong is a machine that a layer's call must refuse, asked of the session at a place; What tells why.
type Wrong struct {
	What    string
	Machine api.Machine
	At      int
}

// NoSession tells machines of each number of sessions, all of them made ready for the call, and places at which none of theirs is.
func NoSession(ready func(s *api.Session)) []Wrong {
	all := []Wrong{{What: "no session at all"}}
	for n := range 5 {
		for _, at := range append(far(), n, n+1, n+256, 1<<32+n, -n-1) {
			all = append(all, Wrong{"no session of " + strconv.Itoa(n), readied(n, ready), at})
		}
	}
	return all
}

// MayNotBe tells machines whose sessions are all ready, but that may not be: of each fault alone, of each two, of a session's fault at each place, of a list that is far too long; asked at places that are there and that are not.
func MayNotBe(ready func(s *api.Session)) []Wrong {
	var all []Wrong
	add := func(what string, m api.Machine) {
		for at := -1; at <= 4; at++ {
			all = append(all, Wrong{what, m, at})
		}
	}
	for first, fault := range Faults() {
		for second, other := range Faults() {
			m := readied(4, ready)
			if fault(&m); first != second {
				other(&m)
			}
			add("faults "+strconv.Itoa(first)+" and "+strconv.Itoa(second), m)
		}
	}
	for which, fault := range SessionFaults() {
		for wrong := range 4 {
			m := readied(4, ready)
			fault(&m.Sessions[wrong])
			add("session fault "+strconv.Itoa(which)+" at "+strconv.Itoa(wrong), m)
		}
	}
	for which, m := range TooLong() {
		add("list too long "+strconv.Itoa(which), m)
	}
	return all
}

// NotAt tells machines that may be, whose session at the place asked for does not run, or stands at none of these codes: at another one, or at its program's end. Of these codes right is an instruction that may stand anywhere.
func NotAt(right api.Inst, codes ...int) []Wrong {
	var all []Wrong
	for at := range 4 {
		for _, s := range elsewhere(right, codes) {
			m := readied(4, func(s *api.Session) { s.Step, s.Pc, s.Prog = 0, 0, []api.Inst{right} })
			here := &m.Sessions[at]
			here.Step, here.Pc, here.Prog = s.Step, s.Pc, s.Prog
			what := "Step " + strconv.Itoa(s.Step) + ", at " + strconv.Itoa(s.Pc) + " of " + strconv.Itoa(len(s.Prog))
			all = append(all, Wrong{what, m, at})
		}
	}
	return all
}

// Several tells machines that would do at a place, made wrong there by each two of these turns, and by each one alone. They turn in their row, so one that takes sessions away is to be the last.
func Several(would func(at int) api.Machine, turns ...func(m *api.Machine, at int)) []Wrong {
	var all []Wrong
	for at := range 4 {
		for second, turn := range turns {
			for first := range second + 1 {
				m := would(at)
				if first != second {
					turns[first](&m, at)
				}
				turn(&m, at)
				all = append(all, Wrong{"turns " + strconv.Itoa(first) + " and " + strconv.Itoa(second), m, at})
			}
		}
	}
	return all
}

// elsewhere tells the Step, Pc and Prog of sessions that NotAt speaks of. Behind a program's end lies what would do.
func elsewhere(right api.Inst, codes []int) []api.Session {
	var all []api.Session
	for step := range 7 {
		for n := range 17 {
			all = append(all, api.Session{Step: step, Pc: n, Prog: slices.Repeat([]api.Inst{right}, n+1)[:n]})
		}
		for pc := range 16 {
			for _, other := range others(pc, codes) {
				prog := slices.Repeat([]api.Inst{right}, 16)
				prog[pc] = other
				all = append(all, api.Session{Step: step, Pc: pc, Prog: prog})
			}
			if step != 0 {
				all = append(all, api.Session{Step: step, Pc: pc, Prog: slices.Repeat([]api.Inst{right}, 16)})
			}
		}
	}
	return all
}

// far are places of no session.
func far() []int {
	return []int{
		-1, -2, -3, -4, -5, -255, -256, 5, 6, 7, 8, 255, 256, 65535, 65536, 1 << 31, 1 << 32, 1<<32 + 1, 1<<32 + 3,
		math.MaxInt32, math.MaxInt - 1, math.MaxInt, math.MinInt32, math.MinInt, math.MinInt + 1, math.MinInt + 3,
	}
}

func readied(sessions int, ready func(s *api.Session)) api.Machine {
	m := Machine(sessions)
	for at := range m.Sessions {
		ready(&m.Sessions[at])
	}
	return m
}

// others are one of each code but these, that may stand at that place of a program as long as can be.
func others(pc int, codes []int) []api.Inst {
	each := []api.Inst{
		{Code: 0, A: 1, B: 1}, {Code: 1, A: 1, B: 1}, {Code: 2, A: 1, B: 1, C: 2}, {Code: 3, A: 1, B: 1, C: 2}, {Code: 4, A: 1, B: pc + 1}, {Code: 5}, {Code: 6, A: 1},
	}
	return slices.DeleteFunc(each, func(i api.Inst) bool { return slices.Contains(codes, i.Code) })
}
