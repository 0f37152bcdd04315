package sample

import (
	"slices"
	"strconv"
	"sync"

	"veil/api"
)

// Call is a layer's call, all but its machine told.
type Call func(m api.Machine) (api.Machine, api.Errno)

// Step is a layer's call that is told a machine and a session's place alone.
type Step func(m api.Machine, at int) (api.Machine, api.Errno)

// Broken tells how a call, asked of such a machine, breaks what holds of all calls, rules R4 and R5; "" if it does not.
func Broken(m api.Machine, call Call) string {
	handed := Roomy(m)
	old := row(handed)
	first, errno := call(handed)
	second, again := call(handed)
	if !slices.Equal(row(handed), old) {
		return "R4: what was handed in, or its room, was turned"
	}
	if !Same(first, second) || errno != again {
		return "R5: two calls of one machine answer two things"
	}
	if Shared(handed, first, second) {
		return "R4: an answer shares a list with what was handed in, with another answer or with itself"
	}
	return turned(m, call, handed, first, second)
}

// AnyBroken tells how a call, asked of these machines, each alone, by turns, and from several goroutines at one time, breaks what holds of all calls; "" if it does not.
func AnyBroken(ms []api.Machine, call Call) string {
	for which, m := range ms {
		if what := Broken(m, call); what != "" {
			return what + ", of machine " + strconv.Itoa(which)
		}
	}
	want := answers(ms, call)
	if !slices.EqualFunc(answers(ms, call), want, slices.Equal) {
		return "R5: what was asked of other machines tells in an answer"
	}
	var wg sync.WaitGroup
	var got [4][][]int
	for which := range got {
		wg.Go(func() { got[which] = answers(ms, call) })
	}
	wg.Wait()
	for _, all := range got {
		if !slices.EqualFunc(all, want, slices.Equal) {
			return "R5: what is asked from other goroutines tells in an answer"
		}
	}
	return ""
}

// AnyBrokenAt tells the same of a step, asked at each place of a session and next to them.
func AnyBrokenAt(ms []api.Machine, step Step) string {
	for at := -1; at <= 4; at++ {
		call := func(m api.Machine) (api.Machine, api.Errno) { return step(m, at) }
		if what := AnyBroken(ms, call); what != "" {
			return what + ", at " + strconv.Itoa(at)
		}
	}
	return ""
}

// answers tells, as numbers, what is answered of each of these machines.
func answers(ms []api.Machine, call Call) [][]int {
	var all [][]int
	for _, m := range ms {
		next, errno := call(m)
		all = append(all, append(row(Copy(next)), int(errno)))
	}
	return all
}

// turned writes over an answer and over what was handed in, and tells what else is turned by it.
func turned(m api.Machine, call Call, handed api.Machine, first api.Machine, second api.Machine) string {
	old, want := row(handed), row(second)
	writeOver(first)
	if !slices.Equal(row(handed), old) || !slices.Equal(row(second), want) {
		return "R4: writing over an answer turned what was handed in, or another answer"
	}
	writeOver(handed)
	if !slices.Equal(row(second), want) {
		return "R4: writing over what was handed in turned an answer"
	}
	if third, _ := call(Roomy(m)); !Same(third, second) {
		return "R5: what was written over an answer, or over what was handed in, tells in a later answer"
	}
	return ""
}

// Shared: does any number lie in two lists of these machines, or in the room behind them?
func Shared(ms ...api.Machine) bool {
	seen := map[*int]int{}
	for _, m := range ms {
		for _, n := range numbers(m) {
			seen[n]++
			if seen[n] > 1 {
				return true
			}
		}
	}
	return false
}

// Same: are two machines one, but for where their lists lie, and for the room behind these?
func Same(one api.Machine, other api.Machine) bool {
	return slices.Equal(row(Copy(one)), row(Copy(other)))
}

// row tells a machine as numbers: what stands in no list, how long its lists are, and what is in them and in their room.
func row(m api.Machine) []int {
	all := slices.Concat(m.Clocks[:], []int{m.Ceiling, len(m.Sessions), len(m.Trace)})
	for _, list := range m.Words {
		all = append(all, len(list))
	}
	for _, s := range m.Sessions {
		all = append(all, len(s.Prog), len(s.Reads), len(s.Writes))
	}
	for _, n := range numbers(m) {
		all = append(all, *n)
	}
	return all
}

func writeOver(m api.Machine) {
	for _, n := range numbers(m) {
		*n = -99
	}
}

// numbers tells where each number in a machine's lists lies, and in the room behind them.
func numbers(m api.Machine) []*int {
	var all []*int
	for _, list := range m.Words {
		all = append(all, inList(list, func(w *api.Word) []*int { return []*int{&w.Value, &w.Version, &w.Lock} })...)
	}
	all = append(all, inList(m.Sessions, inSession)...)
	return append(all, inList(m.Trace, func(e *api.Event) []*int { return []*int{&e.Id, &e.Label, &e.Kind, &e.Value} })...)
}

func inSession(s *api.Session) []*int {
	all := []*int{&s.Id, &s.Label, &s.Clear, &s.Step, &s.Pc, &s.At, &s.Stamp, &s.Tries, &s.Result, &s.Told}
	for which := range s.Regs {
		all = append(all, &s.Regs[which])
	}
	all = append(all, inList(s.Prog, func(i *api.Inst) []*int { return []*int{&i.Code, &i.A, &i.B, &i.C} })...)
	all = append(all, inList(s.Reads, func(r *api.Read) []*int { return []*int{&r.Level, &r.Index, &r.Version} })...)
	return append(all, inList(s.Writes, func(w *api.Write) []*int { return []*int{&w.Level, &w.Index, &w.Value} })...)
}

func inList[T any](list []T, in func(*T) []*int) []*int {
	var all []*int
	list = list[:cap(list)]
	for at := range list {
		all = append(all, in(&list[at])...)
	}
	return all
}
