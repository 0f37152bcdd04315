package turn

import (
	"fmt"
	"testing"

	"veil/api"
	"veil/sample"
)

func tell(m api.Machine) string { return fmt.Sprintf("%+v", m) }

// The session is the machine's own: what is turned of it stands in the machine, at its place alone.
func TestOf(t *testing.T) {
	for n := 1; n <= 4; n++ {
		for at := range n {
			m := sample.Machine(n)
			who := Of(m, at)
			if got := tell(who.Machine); got != tell(m) || who.Id != sample.Id(at) {
				t.Errorf("session %d of %s is %d of %s", at, tell(m), who.Id, got)
			}
			who.At++
			who.Ceiling++
			want := sample.Copy(m)
			want.Sessions[at].At++
			want.Ceiling++
			if got := tell(who.Machine); got != tell(want) {
				t.Errorf("turned at %d it is %s, want %s", at, got, tell(want))
			}
			if tell(m) != tell(sample.Machine(n)) {
				t.Errorf("what was handed in is %s then", tell(m))
			}
		}
	}
}

// Each word, of one write and of one among others.
func TestWord(t *testing.T) {
	for at := range 4 {
		for word := range 16 {
			for _, ahead := range [][]int{nil, sample.But(word, 15)[:word]} {
				m := sample.Machine(4)
				s := &m.Sessions[at]
				s.Writes, s.At = sample.Writes(append(ahead, word)...), len(ahead)
				who := Of(m, at)
				who.Word().Value = 111
				want := sample.Copy(m)
				want.Words[word/4][word%4].Value = 111
				if got := tell(who.Machine); got != tell(want) {
					t.Errorf("with word %d turned it is %s, want %s", word, got, tell(want))
				}
			}
		}
	}
}

func TestRules(t *testing.T) {
	for n := 1; n <= 4; n++ {
		for at := range n {
			call := func(m api.Machine) (api.Machine, api.Errno) { return Of(m, at).Machine, api.OK }
			if broken := sample.Broken(sample.Machine(n), call); broken != "" {
				t.Error(broken)
			}
		}
	}
}
