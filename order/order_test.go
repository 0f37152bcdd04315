package order

import (
	"math"
	"slices"
	"sync"
	"testing"

	"veil/api"
)

// cases are written out, so that they share no rule with what they test.
var cases = []struct {
	name  string
	ls    []int
	join  int
	chain bool
}{
	{"nil", nil, 0, true},
	{"no label", []int{}, 0, true},
	{"0 alone", []int{0}, 0, true},
	{"1 alone", []int{1}, 1, true},
	{"2 alone", []int{2}, 2, true},
	{"3 alone", []int{3}, 3, true},
	{"0 twice", []int{0, 0}, 0, true},
	{"1 twice", []int{1, 1}, 1, true},
	{"2 twice", []int{2, 2}, 2, true},
	{"3 twice", []int{3, 3}, 3, true},
	{"0 below 1", []int{0, 1}, 1, true},
	{"0 below 2", []int{0, 2}, 2, true},
	{"0 below 3", []int{0, 3}, 3, true},
	{"1 below 3", []int{1, 3}, 3, true},
	{"2 below 3", []int{2, 3}, 3, true},
	{"1 above 0", []int{1, 0}, 1, false},
	{"2 above 0", []int{2, 0}, 2, false},
	{"3 above 0", []int{3, 0}, 3, false},
	{"3 above 1", []int{3, 1}, 3, false},
	{"3 above 2", []int{3, 2}, 3, false},
	{"neither below the other, rising", []int{1, 2}, 3, false},
	{"neither below the other, falling", []int{2, 1}, 3, false},
	{"chain over 1", []int{0, 1, 3}, 3, true},
	{"chain over 2", []int{0, 2, 3}, 3, true},
	{"chain with one label again", []int{0, 0, 2, 2, 3, 3}, 3, true},
	{"all labels, rising numbers", []int{0, 1, 2, 3}, 3, false},
	{"broken in the first place", []int{1, 0, 1, 3}, 3, false},
	{"broken in the middle", []int{0, 1, 0, 1}, 1, false},
	{"broken in the last place", []int{0, 2, 3, 2}, 3, false},
	{"neighbours, not the ends", []int{0, 2, 1, 3}, 3, false},
	{"categories far apart", []int{1, 0, 0, 2}, 3, false},
	{"falling", []int{3, 2, 0}, 3, false},
}

// wrong labels: the first ones beyond either edge, ones whose low bits are a label's, and the ends of the number kinds.
var wrong = []int{
	-1, -2, -3, -4, -5, api.Levels, api.Levels + 1, api.Levels + 3, 8, 255, 256, 1 << 16, 1<<32 + 1, 1 << 62,
	math.MaxInt8, math.MaxInt32, math.MaxInt, math.MinInt32, math.MinInt, math.MinInt + 1,
}

func TestJoin(t *testing.T) {
	for _, c := range cases {
		if got, e := Join(c.ls); got != c.join || e != api.OK {
			t.Errorf("P2.1: %s: Join(%v) = %d, %d, want %d, %d", c.name, c.ls, got, e, c.join, api.OK)
		}
	}
}

func TestChain(t *testing.T) {
	for _, c := range cases {
		if got, e := Chain(c.ls); got != c.chain || e != api.OK {
			t.Errorf("P2.1: %s: Chain(%v) = %v, %d, want %v, %d", c.name, c.ls, got, e, c.chain, api.OK)
		}
	}
}

func refused(t *testing.T, ls []int) {
	t.Helper()
	if got, e := Join(ls); got != 0 || e != api.ErrOrderForm {
		t.Errorf("P2.1: Join(%v) = %d, %d, want 0, %d", ls, got, e, api.ErrOrderForm)
	}
	if got, e := Chain(ls); got || e != api.ErrOrderForm {
		t.Errorf("P2.1: Chain(%v) = %v, %d, want false, %d", ls, got, e, api.ErrOrderForm)
	}
}

// A wrong label is put into every place of every list, chain or not: the first, the middle ones, the last.
func TestOneWrongLabelInAnyPlace(t *testing.T) {
	for _, c := range cases {
		for at := 0; at <= len(c.ls); at++ {
			for _, w := range wrong {
				refused(t, slices.Insert(slices.Clone(c.ls), at, w))
			}
		}
	}
}

func TestSeveralWrongLabels(t *testing.T) {
	for _, w := range wrong {
		for _, v := range wrong {
			refused(t, []int{w, v})
			refused(t, []int{w, 0, v})
			refused(t, []int{3, w, 0, v, 1})
		}
	}
}

// asItWas calls both with ls at the middle of a longer list, whose rest, the spare room too, must stay as it was.
func asItWas(t *testing.T, ls []int) {
	t.Helper()
	const mark = 77
	whole := slices.Concat([]int{mark}, ls, []int{mark, mark})
	old := slices.Clone(whole)
	part := whole[1 : 1+len(ls)]
	Join(part)
	Chain(part)
	if !slices.Equal(whole, old) {
		t.Errorf("R4: %v became %v", old, whole)
	}
}

func TestWhatIsHandedInStays(t *testing.T) {
	for _, c := range cases {
		asItWas(t, c.ls)
		asItWas(t, append(slices.Clone(c.ls), -1))
		asItWas(t, append([]int{api.Levels}, c.ls...))
	}
}

// A second round of the same calls, in the other direction, answers the same: nothing is kept from call to call.
func TestAnswersHangOnArgumentsAlone(t *testing.T) {
	for _, c := range slices.Backward(cases) {
		refused(t, append(slices.Clone(c.ls), api.Levels))
		join, e := Join(c.ls)
		chain, f := Chain(c.ls)
		if join != c.join || chain != c.chain || e != api.OK || f != api.OK {
			t.Errorf("R5: %s: %d, %v; %d, %d", c.name, join, chain, e, f)
		}
	}
}

func TestManyGoroutines(t *testing.T) {
	var all sync.WaitGroup
	for range 8 {
		all.Add(1)
		go func() {
			defer all.Done()
			for _, c := range cases {
				join, e := Join(c.ls)
				chain, f := Chain(c.ls)
				if join != c.join || chain != c.chain || e != api.OK || f != api.OK {
					t.Errorf("R5: %s: %d, %v; %d, %d", c.name, join, chain, e, f)
				}
			}
		}()
	}
	all.Wait()
}

// A list is of any length; what is told of it hangs on its far end too.
func TestLongLists(t *testing.T) {
	const n = 100000
	ls := make([]int, n)
	for i := range ls {
		ls[i] = 1
	}
	if chain, e := Chain(ls); !chain || e != api.OK {
		t.Errorf("P2.1: %d labels 1: %v, %d", n, chain, e)
	}
	ls[n-1] = 2
	join, e := Join(ls)
	chain, f := Chain(ls)
	if join != 3 || chain || e != api.OK || f != api.OK {
		t.Errorf("P2.1: %d labels 1, the last one 2: %d, %v; %d, %d", n, join, chain, e, f)
	}
	ls[n-1] = api.Levels
	if join, e := Join(ls); join != 0 || e != api.ErrOrderForm {
		t.Errorf("P2.1: the last of %d labels wrong: %d, %d", n, join, e)
	}
	if chain, e := Chain(ls); chain || e != api.ErrOrderForm {
		t.Errorf("P2.1: the last of %d labels wrong: %v, %d", n, chain, e)
	}
}
