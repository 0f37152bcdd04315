package start

import (
	"fmt"
	"math"
	"slices"
	"sync"
	"testing"

	"veil/api"
)

// The limits are written out as numbers, so that they share no name with what they test.
const (
	maxId     = 254
	maxInsts  = 16
	startForm = 1100
)

// far are no Id and no label: negative ones, ones whose low bits would do, and the ends of the number kinds.
var far = []int{
	-1, -2, -3, -4, -254, -255, -256, -65536, 255, 256, 257, 258, 259, 510, 65535, 65536, 65537, 1 << 31, 1 << 32, 1<<32 + 1, 1<<32 + 3, 1 << 62,
	math.MaxInt32, math.MaxUint32, math.MaxInt - 1, math.MaxInt, math.MinInt32, math.MinInt, math.MinInt + 1, math.MinInt + 3,
}

// pairs are all the labels, each with the clearances that it is below.
var pairs = [][2]int{{0, 0}, {0, 1}, {0, 2}, {0, 3}, {1, 1}, {1, 3}, {2, 2}, {2, 3}, {3, 3}}

// crossed are pairs of labels that may be, the first of which is not below the second.
var crossed = [][2]int{{1, 0}, {1, 2}, {2, 0}, {2, 1}, {3, 0}, {3, 1}, {3, 2}}

// goodInsts may be at every place of a program: each Code but CodeZero, at its edges and within them.
var goodInsts = []api.Inst{
	{}, {Code: 0, A: 3, B: 255},
	{Code: 1}, {Code: 1, A: 3, B: 3},
	{Code: 2}, {Code: 2, A: 3, B: 3, C: 3},
	{Code: 3}, {Code: 3, A: 3, B: 3, C: 3},
	{Code: 5},
	{Code: 6}, {Code: 6, A: 255},
}

// badInsts may be at no place of any program.
var badInsts = []api.Inst{
	{A: 4}, {A: -1}, {B: 256}, {B: -1}, {C: 1},
	{Code: 1, A: 4}, {Code: 1, B: 4}, {Code: 1, B: -1}, {Code: 1, C: 1},
	{Code: 2, A: 4}, {Code: 2, B: 4}, {Code: 2, B: -1}, {Code: 2, C: 4}, {Code: 2, C: -1},
	{Code: 3, A: -1}, {Code: 3, B: 4}, {Code: 3, B: -1}, {Code: 3, C: 4},
	{Code: 4}, {Code: 4, A: 4, B: 16}, {Code: 4, B: 17}, {Code: 4, B: -1}, {Code: 4, B: 16, C: 1},
	{Code: 5, A: 1}, {Code: 5, B: 1}, {Code: 5, C: 1},
	{Code: 6, A: 256}, {Code: 6, A: -1}, {Code: 6, B: 1}, {Code: 6, C: 1},
	{Code: -1}, {Code: 7}, {Code: 255}, {Code: 256}, {Code: 1<<32 + 5}, {Code: math.MaxInt}, {Code: math.MinInt},
}

// many is a program of n instructions, of all kinds but CodeZero.
func many(n int) []api.Inst {
	p := make([]api.Inst, n)
	for at := range p {
		p[at] = goodInsts[(n+at)%len(goodInsts)]
	}
	return p
}

// with is a new program, p with i at that place.
func with(p []api.Inst, at int, i api.Inst) []api.Inst {
	p = slices.Clone(p)
	p[at] = i
	return p
}

// roomy is p with room behind it, in which others lie; all of it is handed back too.
func roomy(p []api.Inst) (part []api.Inst, all []api.Inst) {
	all = append(slices.Clone(p), many(5)...)
	return all[:len(p)], all
}

// ordinary is a Start that may be, with a number of its own in each field.
func ordinary() api.Start {
	return api.Start{Id: 9, Label: 2, Clear: 3, Prog: []api.Inst{
		{Code: 2, A: 1, B: 2, C: 3}, {Code: 4, A: 1, B: 3}, {Code: 5}, {Code: 3, A: 1, B: 2, C: 0},
	}}
}

// told is a session whole, each field by its name; an empty list and nil are one there.
func told(s api.Session) string { return fmt.Sprintf("%+v", s) }

// mayBe: the answer's fields are asked one by one, as what is not named is zero.
func mayBe(t *testing.T, s api.Start) {
	t.Helper()
	if !May(s) {
		t.Errorf("P11.1: May(%v) is false", s)
	}
	got, e := New(s)
	if e != api.OK {
		t.Errorf("P11.1: New(%v): %d, want 0", s, e)
	}
	if got.Id != s.Id || got.Label != s.Label || got.Clear != s.Clear || !slices.Equal(got.Prog, s.Prog) {
		t.Errorf("P11.1: New(%v) = %s", s, told(got))
	}
	restIsZero(t, got)
}

// restIsZero: what a session has beside a Start's four is zero; the step is StepRun, the result ResultNone.
func restIsZero(t *testing.T, s api.Session) {
	t.Helper()
	if s.Step != 0 || s.Pc != 0 || s.Regs != [4]int{} || len(s.Reads) != 0 || len(s.Writes) != 0 {
		t.Errorf("P11.1: New's %s: not as it begins", told(s))
	}
	if s.At != 0 || s.Stamp != 0 || s.Tries != 0 || s.Result != 0 || s.Told != 0 {
		t.Errorf("P11.1: New's %s: not all else is zero", told(s))
	}
	if s.Reads != nil || s.Writes != nil {
		t.Errorf("R2: New's %s: a list that is not named is not its zero value", told(s))
	}
}

func mayNotBe(t *testing.T, s api.Start) {
	t.Helper()
	if May(s) {
		t.Errorf("P11.1: May(%v) is true", s)
	}
	got, e := New(s)
	if e != startForm {
		t.Errorf("P11.1: New(%v): %d, want 1100", s, e)
	}
	if got.Id != 0 || got.Label != 0 || got.Clear != 0 || got.Prog != nil {
		t.Errorf("R2: New(%v) = %s, want zero beside the error", s, told(got))
	}
	restIsZero(t, got)
}

func TestLimits(t *testing.T) {
	if api.Levels != 4 || api.MaxId != maxId || api.MaxInsts != maxInsts || api.ErrStartForm != startForm || api.OK != 0 {
		t.Fatal("the numbers of these tests are not those of package api")
	}
	if api.StepRun != 0 || api.ResultNone != 0 {
		t.Fatal("a session does not begin at zero")
	}
}

// These are written out whole, answers too.
func TestOrdinary(t *testing.T) {
	got, e := New(api.Start{Id: 7, Label: 1, Clear: 3, Prog: []api.Inst{{Code: 0, A: 2, B: 200}, {Code: 5}}})
	want := "{Id:7 Label:1 Clear:3 Prog:[{Code:0 A:2 B:200 C:0} {Code:5 A:0 B:0 C:0}] Step:0 Pc:0 Regs:[0 0 0 0] Reads:[] Writes:[] At:0 Stamp:0 Tries:0 Result:0 Told:0}"
	if told(got) != want || e != api.OK {
		t.Errorf("P11.1: New = %s, %d, want %s, 0", told(got), e, want)
	}
	got, e = New(api.Start{Id: 255, Label: 1, Clear: 3, Prog: []api.Inst{{Code: 5}}})
	want = "{Id:0 Label:0 Clear:0 Prog:[] Step:0 Pc:0 Regs:[0 0 0 0] Reads:[] Writes:[] At:0 Stamp:0 Tries:0 Result:0 Told:0}"
	if told(got) != want || e != 1100 {
		t.Errorf("P11.1: New = %s, %d, want %s, 1100", told(got), e, want)
	}
	mayBe(t, ordinary())
	mayBe(t, api.Start{})
	mayBe(t, api.Start{Id: 254, Label: 3, Clear: 3, Prog: []api.Inst{{Code: 6, A: 255}}})
	mayNotBe(t, api.Start{Id: -1})
	mayNotBe(t, api.Start{Label: 1})
	mayNotBe(t, api.Start{Label: 1, Clear: 2})
	mayNotBe(t, api.Start{Clear: 4})
	mayNotBe(t, api.Start{Label: 4, Clear: 4})
	mayNotBe(t, api.Start{Prog: []api.Inst{{Code: 4}}})
}

func TestEachId(t *testing.T) {
	for id := range maxId + 1 {
		s := ordinary()
		s.Id = id
		mayBe(t, s)
		mayBe(t, api.Start{Id: id})
	}
	for _, id := range far {
		s := ordinary()
		s.Id = id
		mayNotBe(t, s)
		mayNotBe(t, api.Start{Id: id})
	}
}

// Every pair from below the first label to beyond the last one: those that are written out may be, no other.
func TestEachPairOfLabels(t *testing.T) {
	taken := 0
	for l := -4; l <= 20; l++ {
		for c := -4; c <= 20; c++ {
			s := ordinary()
			s.Label, s.Clear = l, c
			if slices.Contains(pairs, [2]int{l, c}) {
				taken++
				mayBe(t, s)
				mayBe(t, api.Start{Label: l, Clear: c})
			} else {
				mayNotBe(t, s)
				mayNotBe(t, api.Start{Label: l, Clear: c})
			}
		}
	}
	if taken != 9 {
		t.Errorf("%d pairs were taken for ones that may be, want 9", taken)
	}
}

// A label that is far off stands beside each label that may be, on either side, and beside itself.
func TestFarLabels(t *testing.T) {
	for _, x := range far {
		for l := range 4 {
			mayNotBe(t, api.Start{Label: x, Clear: l})
			mayNotBe(t, api.Start{Label: l, Clear: x})
		}
		for _, y := range far {
			mayNotBe(t, api.Start{Label: x, Clear: y})
		}
	}
}

// What the labels are does not hang on what the program does: it may name levels beyond the clearance.
func TestLabelsBesideWordsOfAllLevels(t *testing.T) {
	for _, pair := range pairs {
		for level := range 4 {
			for _, code := range []int{2, 3} {
				mayBe(t, api.Start{Label: pair[0], Clear: pair[1], Prog: []api.Inst{{Code: code, B: level, C: 3}}})
			}
		}
	}
	for _, pair := range crossed {
		mayNotBe(t, api.Start{Label: pair[0], Clear: pair[1], Prog: []api.Inst{{Code: 2, B: pair[0]}}})
	}
}

// An empty list and nil are one.
func TestNoInstruction(t *testing.T) {
	for _, none := range [][]api.Inst{nil, {}, make([]api.Inst, 0, 16), many(3)[1:1]} {
		for _, pair := range pairs {
			mayBe(t, api.Start{Id: 254, Label: pair[0], Clear: pair[1], Prog: none})
		}
		for _, pair := range crossed {
			mayNotBe(t, api.Start{Label: pair[0], Clear: pair[1], Prog: none})
		}
		mayNotBe(t, api.Start{Id: 255, Prog: none})
		mayNotBe(t, api.Start{Id: -1, Prog: none})
	}
}

func TestEachNumberOfInstructions(t *testing.T) {
	for n := range maxInsts + 1 {
		for _, pair := range pairs {
			mayBe(t, api.Start{Id: n, Label: pair[0], Clear: pair[1], Prog: many(n)})
		}
		for _, i := range goodInsts {
			mayBe(t, api.Start{Id: 254 - n, Label: 1, Clear: 3, Prog: slices.Repeat([]api.Inst{i}, n)})
		}
	}
}

// Numbers whose low bits would do are among them; what is more than MaxInsts may not be, whatever lies in it.
func TestTooManyInstructions(t *testing.T) {
	for n := maxInsts + 1; n <= 40; n++ {
		mayNotBe(t, api.Start{Id: 3, Label: 1, Clear: 3, Prog: many(n)})
	}
	for _, n := range []int{17, 32, 255, 256, 257, 272} {
		mayNotBe(t, api.Start{Prog: make([]api.Inst, n)})
		mayNotBe(t, api.Start{Prog: slices.Repeat([]api.Inst{{Code: 7}}, n)})
	}
	for _, n := range []int{65536, 65537, 65552, 1 << 20} {
		s := api.Start{Prog: make([]api.Inst, n)}
		if got, e := New(s); May(s) || told(got) != told(api.Session{}) || e != startForm {
			t.Errorf("P11.1: a program of %d instructions: %s, %d", n, told(got), e)
		}
	}
}

func TestABadInstructionAtEachPlace(t *testing.T) {
	for n := 1; n <= maxInsts; n++ {
		for at := range n {
			for _, bad := range badInsts {
				mayNotBe(t, api.Start{Id: 3, Label: 2, Clear: 2, Prog: with(many(n), at, bad)})
			}
		}
	}
}

// CodeZero stands at each place of programs of each length: it goes on behind its place, up to the end.
func TestProgramsGoForward(t *testing.T) {
	for n := 1; n <= maxInsts; n++ {
		for at := range n {
			for b := -1; b <= maxInsts+1; b++ {
				s := api.Start{Id: 5, Clear: 1, Prog: with(many(n), at, api.Inst{Code: 4, A: 3, B: b})}
				if b > at && b <= n {
					mayBe(t, s)
				} else {
					mayNotBe(t, s)
				}
			}
		}
	}
}

// Each field goes wrong or stays right, in every way beside the others: one error stands for all of them.
func TestSeveralAtOnce(t *testing.T) {
	ids := []int{0, 128, 254, -1, 255, math.MinInt}
	labels := append(slices.Concat(pairs, crossed), [2]int{-1, -1}, [2]int{4, 4}, [2]int{-1, 3}, [2]int{0, 4}, [2]int{0, -1}, [2]int{4, 3})
	progs := [][]api.Inst{nil, many(1), many(16), many(17), {{Code: 7}}, {{Code: 4, B: 2}}, with(many(16), 15, api.Inst{Code: 4, B: 15})}
	taken, refused := 0, 0
	for i, id := range ids {
		for l, pair := range labels {
			for p, prog := range progs {
				s := api.Start{Id: id, Label: pair[0], Clear: pair[1], Prog: prog}
				if i < 3 && l < 9 && p < 3 {
					taken++
					mayBe(t, s)
				} else {
					refused++
					mayNotBe(t, s)
				}
			}
		}
	}
	if taken != 81 || refused != 6*22*7-81 {
		t.Errorf("%d Starts may be and %d may not be, want 81 and %d", taken, refused, 6*22*7-81)
	}
}

// How many there are counts, not how much room there is; what lies in that room is no instruction.
func TestSpareRoomDoesNotCount(t *testing.T) {
	all := many(100)
	for n := range maxInsts + 1 {
		mayBe(t, api.Start{Prog: all[:n]})
	}
	mayNotBe(t, api.Start{Prog: all[:17]})
	all[3] = api.Inst{Code: 7}
	mayBe(t, api.Start{Prog: all[:3]})
	mayNotBe(t, api.Start{Prog: all[:4]})
	all[2] = api.Inst{Code: 4, B: 4}
	mayNotBe(t, api.Start{Prog: all[:3]})
}

// Starts that may be and ones that may not be; each is made anew at each call.
func mixed() []api.Start {
	var list []api.Start
	for n := range maxInsts + 2 {
		list = append(list, api.Start{Id: n, Label: 2, Clear: 3, Prog: many(n)}, api.Start{Id: 255, Prog: many(n)}, api.Start{Label: 2, Clear: 1, Prog: many(n)})
	}
	for _, bad := range badInsts {
		list = append(list, api.Start{Prog: with(many(16), 7, bad)})
	}
	return append(list, ordinary())
}

func TestWhatIsHandedInStays(t *testing.T) {
	for _, s := range mixed() {
		old := s
		part, all := roomy(s.Prog)
		s.Prog = part
		May(s)
		New(s)
		if want := append(slices.Clone(old.Prog), many(5)...); !slices.Equal(all, want) {
			t.Errorf("R4: the program handed in, or its room, is %v, was %v", all, want)
		}
	}
}

// scribble writes over a program, and over all of its room.
func scribble(p []api.Inst) {
	p = p[:cap(p)]
	for at := range p {
		p[at] = api.Inst{Code: -9, A: -9, B: -9, C: -9}
	}
}

func TestWritingOverAnAnswer(t *testing.T) {
	for n := range maxInsts + 1 {
		part, all := roomy(many(n))
		s := api.Start{Id: n, Clear: 3, Prog: part}
		first, _ := New(s)
		second, _ := New(s)
		scribble(first.Prog)
		if want := append(many(n), many(5)...); !slices.Equal(all, want) {
			t.Errorf("R4: writing over an answer of %d instructions turned the program handed in: %v", n, all)
		}
		if !slices.Equal(second.Prog, many(n)) {
			t.Errorf("R4: writing over an answer of %d instructions turned another one: %v", n, second.Prog)
		}
		_ = append(second.Prog, api.Inst{Code: -9})
		if third, _ := New(s); !slices.Equal(all[n:], many(5)) || !slices.Equal(third.Prog, many(n)) {
			t.Errorf("R4: laying on behind an answer of %d instructions turned another list", n)
		}
	}
}

func TestWritingOverTheArgument(t *testing.T) {
	for n := range maxInsts + 1 {
		part, all := roomy(many(n))
		got, _ := New(api.Start{Id: n, Clear: 3, Prog: part})
		scribble(all)
		if !slices.Equal(got.Prog, many(n)) {
			t.Errorf("R4: writing over the program handed in turned the answer of %d instructions: %v", n, got.Prog)
		}
	}
}

// What is answered of another Start in between, or of the same one, tells in no answer.
func TestCallsDoNotHangOnOthers(t *testing.T) {
	list := mixed()
	for _, s := range list {
		may := May(s)
		first, e := New(s)
		for _, other := range list {
			May(other)
			New(other)
		}
		second, again := New(s)
		if told(first) != told(second) || e != again || may != May(s) || may != (e == api.OK) {
			t.Errorf("R5: New(%v) = %s, %d, then %s, %d", s, told(first), e, told(second), again)
		}
	}
}

func TestAnswersHangOnArgumentsAlone(t *testing.T) {
	var wg sync.WaitGroup
	s, wrong := ordinary(), ordinary()
	wrong.Label = 4
	for range 16 {
		wg.Go(func() {
			for range 100 {
				mayBe(t, s)
				mayNotBe(t, wrong)
			}
		})
	}
	wg.Wait()
}
