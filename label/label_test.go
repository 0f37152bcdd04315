package label

import (
	"math"
	"testing"

	"veil/api"
)

// joins and belows are written out, so that they share no rule with what they test.
var joins = [4][4]int{
	{0, 1, 2, 3},
	{1, 1, 3, 3},
	{2, 3, 2, 3},
	{3, 3, 3, 3},
}

var belows = [4][4]bool{
	{true, true, true, true},
	{false, true, false, true},
	{false, false, true, true},
	{false, false, false, true},
}

// wrong labels: the first ones beyond either edge, ones whose low bits are a label's, and the ends of the number kinds.
var wrong = []int{
	-1, -2, -3, -4, -5, api.Levels, api.Levels + 1, api.Levels + 3, 8, 255, 256, 1 << 16, 1<<32 + 1, 1 << 62,
	math.MaxInt8, math.MaxInt32, math.MaxInt, math.MinInt32, math.MinInt, math.MinInt + 1,
}

func TestMay(t *testing.T) {
	for _, l := range []int{0, 1, 2, api.Levels - 1} {
		if !May(l) {
			t.Errorf("P1.1: May(%d) is false", l)
		}
	}
	for _, l := range wrong {
		if May(l) {
			t.Errorf("P1.1: May(%d) is true", l)
		}
	}
}

func TestJoin(t *testing.T) {
	for a, row := range joins {
		for b, want := range row {
			if got, e := Join(a, b); got != want || e != api.OK {
				t.Errorf("P1.1: Join(%d, %d) = %d, %d, want %d, %d", a, b, got, e, want, api.OK)
			}
		}
	}
}

func TestBelow(t *testing.T) {
	for a, row := range belows {
		for b, want := range row {
			if got, e := Below(a, b); got != want || e != api.OK {
				t.Errorf("P1.1: Below(%d, %d) = %v, %d, want %v, %d", a, b, got, e, want, api.OK)
			}
		}
	}
}

func refused(t *testing.T, a int, b int) {
	t.Helper()
	if got, e := Join(a, b); got != 0 || e != api.ErrLabelForm {
		t.Errorf("P1.1: Join(%d, %d) = %d, %d, want 0, %d", a, b, got, e, api.ErrLabelForm)
	}
	if got, e := Below(a, b); got || e != api.ErrLabelForm {
		t.Errorf("P1.1: Below(%d, %d) = %v, %d, want false, %d", a, b, got, e, api.ErrLabelForm)
	}
}

func TestWrongLabelsInEitherPlace(t *testing.T) {
	for _, w := range wrong {
		for l := range api.Levels {
			refused(t, w, l)
			refused(t, l, w)
		}
		for _, v := range wrong {
			refused(t, w, v)
		}
	}
}
