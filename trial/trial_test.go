package trial

import (
	"fmt"
	"strings"
	"testing"

	"veil/api"
	"veil/sample"
)

// teller keeps what it is told first, and goes no further, as a test does not.
type teller struct{ told string }

func (r *teller) Helper() {}

func (r *teller) Fatalf(format string, values ...any) {
	r.told = fmt.Sprintf(format, values...)
	panic(r)
}

// toldBy is what a question tells; "" if nothing.
func toldBy(ask func(t Reporter)) string {
	r := &teller{}
	func() {
		defer func() {
			if what := recover(); what != nil && what != any(r) {
				panic(what)
			}
		}()
		ask(r)
	}()
	return r.told
}

// next is what the right step answers: the Ceiling is one more.
func next(m api.Machine, at int) api.Machine {
	m = sample.Copy(m)
	m.Ceiling++
	return m
}

func layer(step sample.Step) Layer {
	return Layer{Promise: "P9.9", Step: step, Refusal: 77, Want: next}
}

func right(m api.Machine, at int) (api.Machine, api.Errno) { return next(m, at), 0 }

func refusing(m api.Machine, at int) (api.Machine, api.Errno) { return api.Machine{}, 77 }

func toldWith(t *testing.T, what string, told string, parts ...string) {
	t.Helper()
	if told == "" {
		t.Errorf("%s is told nothing", what)
	}
	for _, part := range parts {
		if !strings.Contains(told, part) {
			t.Errorf("%s is told %s, want %s in it", what, told, part)
		}
	}
}

func TestIs(t *testing.T) {
	m := sample.Machine(3)
	var got api.Machine
	if told := toldBy(func(t Reporter) { got = layer(right).Is(t, m, 1) }); told != "" || !sample.Same(got, next(m, 1)) {
		t.Errorf("a right step is told %q, and answers %+v", told, got)
	}
	for what, step := range map[string]sample.Step{
		"a step that does nothing":        func(m api.Machine, at int) (api.Machine, api.Errno) { return sample.Copy(m), 0 },
		"a step that refuses":             refusing,
		"a step that does it and refuses": func(m api.Machine, at int) (api.Machine, api.Errno) { return next(m, at), 77 },
		"a step that does it at 1 alone twice": func(m api.Machine, at int) (api.Machine, api.Errno) {
			if at == 1 {
				m = next(m, at)
			}
			return right(m, at)
		},
	} {
		toldWith(t, what, toldBy(func(t Reporter) { layer(step).Is(t, m, 1) }), "P9.9", "Ceiling:1001")
	}
	m.Ceiling = 65535
	toldWith(t, "what may not be", toldBy(func(t Reporter) { layer(right).Is(t, m, 1) }), "P9.9", "may not be")
}

func TestRefused(t *testing.T) {
	m := sample.Machine(2)
	for at := range 2 {
		if told := toldBy(func(t Reporter) { layer(refusing).Refused(t, "this", m, at) }); told != "" {
			t.Errorf("a step that refuses is told %q", told)
		}
	}
	for what, step := range map[string]sample.Step{
		"a step that does it":                func(m api.Machine, at int) (api.Machine, api.Errno) { return next(m, at), 0 },
		"a step that does it and refuses":    func(m api.Machine, at int) (api.Machine, api.Errno) { return next(m, at), 77 },
		"a step that answers OK and nothing": func(m api.Machine, at int) (api.Machine, api.Errno) { return api.Machine{}, 0 },
		"a step of another errno":            func(m api.Machine, at int) (api.Machine, api.Errno) { return api.Machine{}, 78 },
		"a step that leaves a clock":         func(m api.Machine, at int) (api.Machine, api.Errno) { return api.Machine{Clocks: m.Clocks}, 77 },
	} {
		toldWith(t, what, toldBy(func(t Reporter) { layer(step).Refused(t, "this", m, 1) }), "P9.9", "this", "77")
	}
}

// One among several that is not refused is told, wherever it stands.
func TestAllRefused(t *testing.T) {
	var wrongs []sample.Wrong
	for at := range 5 {
		wrongs = append(wrongs, sample.Wrong{What: fmt.Sprint("wrong ", at), Machine: sample.Machine(4), At: at})
	}
	for not := range 6 {
		step := func(m api.Machine, at int) (api.Machine, api.Errno) {
			if at == not {
				return right(m, at)
			}
			return refusing(m, at)
		}
		told := toldBy(func(t Reporter) { layer(step).AllRefused(t, wrongs) })
		if not < 5 {
			toldWith(t, "a step that does not refuse all", told, "P9.9", fmt.Sprint("wrong ", not))
		} else if told != "" {
			t.Errorf("a step that refuses all is told %q", told)
		}
	}
}

// A step that is wrong at one place alone, and one that answers a list twice there.
func TestEachIs(t *testing.T) {
	m := sample.Machine(3)
	m.Words[1], m.Words[2] = sample.Copy(m).Words[0], sample.Copy(m).Words[0]
	if told := toldBy(func(t Reporter) { layer(right).EachIs(t, m) }); told != "" {
		t.Errorf("a right step is told %q", told)
	}
	for wrong := range 3 {
		refuses := func(m api.Machine, at int) (api.Machine, api.Errno) {
			if at == wrong {
				return refusing(m, at)
			}
			return right(m, at)
		}
		toldWith(t, "a step that refuses at one", toldBy(func(t Reporter) { layer(refuses).EachIs(t, m) }), "P9.9", fmt.Sprint(", ", wrong, ")"))
		shares := func(m api.Machine, at int) (api.Machine, api.Errno) {
			m = next(m, at)
			if at == wrong {
				m.Words[1] = m.Words[2]
			}
			return m, 0
		}
		toldWith(t, "a step that shares at one", toldBy(func(t Reporter) { layer(shares).EachIs(t, m) }), "R4", fmt.Sprint(", ", wrong, ")"))
	}
}
