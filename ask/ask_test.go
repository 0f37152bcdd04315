package ask

import (
	"math"
	"slices"
	"testing"
)

func even(n int) bool { return n%2 == 0 }

func TestAll(t *testing.T) {
	for _, list := range [][]int{nil, {}, {2}, {2, 4}, {0, -2, 8, 6}} {
		if !All(list, even) {
			t.Errorf("All(%v, even) is false", list)
		}
	}
	for n := 1; n <= 16; n++ {
		for at := range n {
			list := make([]int, n)
			list[at] = 1
			if All(list, even) {
				t.Errorf("All(%v, even) is true", list)
			}
		}
	}
}

// What lies behind a list's end is none of its own.
func TestAllOfAPart(t *testing.T) {
	whole := []int{1, 2, 4, 1}
	if !All(whole[1:3], even) {
		t.Errorf("All(%v, even) is false", whole[1:3])
	}
}

func TestAllOfAnotherKind(t *testing.T) {
	long := func(s string) bool { return len(s) > 1 }
	if !All([]string{"ab", "abc"}, long) || All([]string{"ab", "c"}, long) {
		t.Error("All of texts is not what it is of each")
	}
}

// Each one is asked in its row, and none behind the first of which it is not so.
func TestAllAsksInTheRow(t *testing.T) {
	var asked []int
	All([]int{2, 4, 5, 6}, func(n int) bool {
		asked = append(asked, n)
		return even(n)
	})
	if want := []int{2, 4, 5}; !slices.Equal(asked, want) {
		t.Errorf("All asked %v, want %v", asked, want)
	}
}

func TestUpTo(t *testing.T) {
	for _, most := range []int{0, 1, 3, 254, 255, 65535} {
		for _, n := range []int{0, most / 2, most} {
			if !UpTo(n, most) {
				t.Errorf("UpTo(%d, %d) is false", n, most)
			}
		}
		for _, n := range []int{-1, -most - 1, most + 1, most + 1<<32, math.MaxInt, math.MinInt} {
			if UpTo(n, most) {
				t.Errorf("UpTo(%d, %d) is true", n, most)
			}
		}
	}
}
