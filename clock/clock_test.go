package clock

import (
	"math"
	"sync"
	"testing"

	"veil/api"
)

// The ends are written out as numbers, so that they share no name with what they test.
var good = []int{0, 1, 2, 254, 255, 256, 32767, 32768, 65533, 65534, 65535}

// far are wrong as a clock, as a ceiling and as a level: negative ones, ones whose low bits would do, and the ends of the number kinds.
var far = []int{
	-1, -2, -3, -4, -5, -255, -65535, -65536, 65536, 65537, 65539, 131071, 1 << 31, 1 << 32, 1<<32 + 1, 1 << 62,
	math.MaxInt32, math.MaxUint32, math.MaxInt - 1, math.MaxInt, math.MinInt32, math.MinInt, math.MinInt + 1,
}

func wrongLevels() []int { return append([]int{4, 5, 6, 7, 8, 255, 256, 65535}, far...) }

func next(t *testing.T, clocks [4]int, level int, ceiling int, want [4]int, stamp int, errno api.Errno) {
	t.Helper()
	if got, n, e := Next(clocks, level, ceiling); got != want || n != stamp || e != errno {
		t.Errorf("P5.1: Next(%v, %d, %d) = %v, %d, %d, want %v, %d, %d", clocks, level, ceiling, got, n, e, want, stamp, errno)
	}
}

// refused: beside an error the clocks and the number are zero.
func refused(t *testing.T, clocks [4]int, level int, ceiling int, errno api.Errno) {
	t.Helper()
	next(t, clocks, level, ceiling, [4]int{}, 0, errno)
}

// with is clocks with c at one level.
func with(clocks [4]int, level int, c int) [4]int {
	clocks[level] = c
	return clocks
}

func TestLimits(t *testing.T) {
	if api.Levels != 4 || api.MaxClock != 65535 || api.ErrClockForm != 500 || api.ErrClockFull != 501 {
		t.Fatal("the numbers of these tests are not those of package api")
	}
}

// These are written out whole, answers too.
func TestOrdinaryClocks(t *testing.T) {
	clocks := [4]int{3, 10, 200, 65535}
	next(t, clocks, 0, 9, [4]int{4, 10, 200, 65535}, 4, api.OK)
	next(t, clocks, 1, 11, [4]int{3, 11, 200, 65535}, 11, api.OK)
	next(t, clocks, 2, 65535, [4]int{3, 10, 201, 65535}, 201, api.OK)
	next(t, [4]int{}, 3, 1, [4]int{0, 0, 0, 1}, 1, api.OK)
	next(t, [4]int{65535, 65535, 65535, 65534}, 3, 65535, [4]int{65535, 65535, 65535, 65535}, 65535, api.OK)
	refused(t, clocks, 1, 10, api.ErrClockFull)
	refused(t, clocks, 1, 9, api.ErrClockFull)
	refused(t, clocks, 3, 65535, api.ErrClockFull)
	refused(t, [4]int{}, 0, 0, api.ErrClockFull)
	refused(t, [4]int{0, 0, 65536, 0}, 2, 5, api.ErrClockForm)
	refused(t, clocks, 0, 65536, api.ErrClockForm)
	refused(t, clocks, 4, 9, api.ErrClockForm)
}

// Each clock meets each ceiling at each level, below it, at it and above it; the other clocks are each end of theirs, and stay.
func TestEveryLevelAtEveryEdge(t *testing.T) {
	for _, others := range [][4]int{{}, {65535, 65535, 65535, 65535}, {7, 65534, 0, 1}} {
		for level := range 4 {
			for _, c := range good {
				for _, ceiling := range good {
					clocks := with(others, level, c)
					if c < ceiling {
						next(t, clocks, level, ceiling, with(others, level, c+1), c+1, api.OK)
					} else {
						refused(t, clocks, level, ceiling, api.ErrClockFull)
					}
				}
			}
		}
	}
}

// The other clocks do not say whether this level's is full: all of them are at the ceiling, or above it, or below it.
func TestOtherLevelsClocksAreNotAsked(t *testing.T) {
	for level := range 4 {
		for _, other := range []int{0, 99, 100, 101, 65535} {
			others := [4]int{other, other, other, other}
			next(t, with(others, level, 99), level, 100, with(others, level, 100), 100, api.OK)
			refused(t, with(others, level, 100), level, 100, api.ErrClockFull)
			refused(t, with(others, level, 101), level, 100, api.ErrClockFull)
		}
	}
}

// A wrong clock stands at each level, the one that is asked for and each other one; the rest is below its ceiling, or full.
func TestWrongClocks(t *testing.T) {
	for _, wrong := range far {
		for at := range 4 {
			for level := range 4 {
				for _, ceiling := range []int{0, 1, 5, 65534, 65535} {
					refused(t, with([4]int{}, at, wrong), level, ceiling, api.ErrClockForm)
					refused(t, with([4]int{5, 5, 5, 5}, at, wrong), level, ceiling, api.ErrClockForm)
					refused(t, with([4]int{65535, 65535, 65535, 65535}, at, wrong), level, ceiling, api.ErrClockForm)
				}
			}
		}
		refused(t, [4]int{wrong, wrong, wrong, wrong}, 0, 65535, api.ErrClockForm)
	}
}

// A negative ceiling is below each clock, so ErrClockFull would apply too.
func TestWrongCeilings(t *testing.T) {
	for _, wrong := range far {
		for level := range 4 {
			for _, c := range good {
				refused(t, [4]int{c, c, c, c}, level, wrong, api.ErrClockForm)
				refused(t, with([4]int{}, level, c), level, wrong, api.ErrClockForm)
			}
		}
	}
}

// All clocks are below the ceiling, or all are full: a wrong level is none of theirs.
func TestWrongLevels(t *testing.T) {
	for _, wrong := range wrongLevels() {
		for _, c := range good {
			for _, ceiling := range good {
				refused(t, [4]int{c, c, c, c}, wrong, ceiling, api.ErrClockForm)
			}
		}
	}
}

func TestAllIsWrong(t *testing.T) {
	for _, wrong := range far {
		for _, other := range far {
			refused(t, [4]int{wrong, 0, 0, 0}, 0, other, api.ErrClockForm)
			refused(t, [4]int{0, 0, 0, wrong}, other, 5, api.ErrClockForm)
			refused(t, [4]int{wrong, wrong, wrong, wrong}, other, wrong, api.ErrClockForm)
		}
	}
}

// Each level's clock goes on, in turns, from nothing to the ceiling, by one, and then no further.
func TestFromNothingToTheCeiling(t *testing.T) {
	const ceiling = 65535
	var clocks [4]int
	for n := 1; n <= ceiling; n++ {
		for level := range 4 {
			want := with(clocks, level, n)
			got, stamp, e := Next(clocks, level, ceiling)
			if got != want || stamp != n || e != api.OK {
				t.Fatalf("P5.1: Next(%v, %d, %d) = %v, %d, %d, want %v, %d, %d", clocks, level, ceiling, got, stamp, e, want, n, api.OK)
			}
			clocks = got
		}
	}
	for level := range 4 {
		refused(t, clocks, level, ceiling, api.ErrClockFull)
	}
}

func TestWhatIsHandedInStays(t *testing.T) {
	clocks := [4]int{1, 2, 3, 4}
	for level := range 4 {
		Next(clocks, level, 9)
		Next(clocks, level, 0)
		Next(clocks, level, -1)
		if clocks != [4]int{1, 2, 3, 4} {
			t.Fatalf("R4: the clocks became %v", clocks)
		}
	}
}

// The same call answers the same again, behind calls that are refused, and from several goroutines at one time.
func TestAnswersHangOnArgumentsAlone(t *testing.T) {
	var all sync.WaitGroup
	for range 8 {
		all.Add(1)
		go func() {
			defer all.Done()
			for range 100 {
				next(t, [4]int{1, 2, 3, 4}, 2, 9, [4]int{1, 2, 4, 4}, 4, api.OK)
				refused(t, [4]int{1, 2, 3, 4}, 2, 3, api.ErrClockFull)
				refused(t, [4]int{1, 2, 3, 4}, 4, 9, api.ErrClockForm)
			}
		}()
	}
	all.Wait()
}
