package regs

import (
	"math"
	"sync"
	"testing"

	"veil/api"
)

// The ends are written out as numbers, so that they share no name with what they test.
var good = []int{0, 1, 2, 3, 4, 127, 128, 129, 253, 254, 255}

// rows are registers that may be: all at one end, and each other than the rest.
var rows = [][4]int{{}, {255, 255, 255, 255}, {1, 2, 3, 4}, {10, 20, 130, 240}, {255, 0, 254, 1}}

// far are wrong as a register's value and as a register's number: negative ones, ones whose low bits would do, and the ends of the number kinds.
var far = []int{
	-1, -2, -3, -4, -5, -128, -254, -255, -256, -257, 256, 257, 259, 511, 512, 65535, 65536, 1 << 31, 1 << 32, 1<<32 + 1, 1 << 62,
	math.MaxInt32, math.MaxUint32, math.MaxInt - 1, math.MaxInt, math.MinInt32, math.MinInt, math.MinInt + 1,
}

func wrongNumbers() []int { return append([]int{4, 5, 6, 7, 8, 127, 128, 254, 255}, far...) }

func set(t *testing.T, rs [4]int, a int, value int, want [4]int, errno api.Errno) {
	t.Helper()
	if got, e := Set(rs, a, value); got != want || e != errno {
		t.Errorf("P6.1: Set(%v, %d, %d) = %v, %d, want %v, %d", rs, a, value, got, e, want, errno)
	}
}

func add(t *testing.T, rs [4]int, a int, b int, want [4]int, errno api.Errno) {
	t.Helper()
	if got, e := Add(rs, a, b); got != want || e != errno {
		t.Errorf("P6.1: Add(%v, %d, %d) = %v, %d, want %v, %d", rs, a, b, got, e, want, errno)
	}
}

// Beside the error the registers are zero.
func setRefused(t *testing.T, rs [4]int, a int, value int) {
	t.Helper()
	set(t, rs, a, value, [4]int{}, api.ErrRegsForm)
}

func addRefused(t *testing.T, rs [4]int, a int, b int) {
	t.Helper()
	add(t, rs, a, b, [4]int{}, api.ErrRegsForm)
}

// with is rs with r in one register.
func with(rs [4]int, a int, r int) [4]int {
	rs[a] = r
	return rs
}

// roundSum goes round by taking away, not by a remainder.
func roundSum(x int, y int) int {
	if x+y > 255 {
		return x + y - 256
	}
	return x + y
}

func TestLimits(t *testing.T) {
	if api.Registers != 4 || api.MaxValue != 255 || api.ErrRegsForm != 600 {
		t.Fatal("the numbers of these tests are not those of package api")
	}
}

// These are written out whole, answers too.
func TestOrdinarySet(t *testing.T) {
	rs := [4]int{10, 20, 130, 240}
	set(t, rs, 0, 7, [4]int{7, 20, 130, 240}, api.OK)
	set(t, rs, 1, 0, [4]int{10, 0, 130, 240}, api.OK)
	set(t, rs, 2, 255, [4]int{10, 20, 255, 240}, api.OK)
	set(t, rs, 3, 240, [4]int{10, 20, 130, 240}, api.OK)
	set(t, [4]int{}, 3, 0, [4]int{}, api.OK)
	setRefused(t, rs, 4, 7)
	setRefused(t, rs, -1, 7)
	setRefused(t, rs, 0, 256)
	setRefused(t, rs, 0, -1)
	setRefused(t, [4]int{10, 256, 130, 240}, 1, 7)
	setRefused(t, [4]int{10, 20, 130, -1}, 0, 7)
}

func TestOrdinaryAdd(t *testing.T) {
	rs := [4]int{10, 20, 130, 240}
	add(t, rs, 0, 1, [4]int{30, 20, 130, 240}, api.OK)
	add(t, rs, 1, 0, [4]int{10, 30, 130, 240}, api.OK)
	add(t, rs, 0, 3, [4]int{250, 20, 130, 240}, api.OK)
	add(t, rs, 1, 3, [4]int{10, 4, 130, 240}, api.OK)
	add(t, rs, 3, 2, [4]int{10, 20, 130, 114}, api.OK)
	add(t, rs, 0, 0, [4]int{20, 20, 130, 240}, api.OK)
	add(t, rs, 2, 2, [4]int{10, 20, 4, 240}, api.OK)
	add(t, [4]int{15, 0, 0, 240}, 0, 3, [4]int{255, 0, 0, 240}, api.OK)
	add(t, [4]int{16, 0, 0, 240}, 0, 3, [4]int{0, 0, 0, 240}, api.OK)
	add(t, [4]int{0, 255, 255, 0}, 2, 1, [4]int{0, 255, 254, 0}, api.OK)
	add(t, [4]int{}, 3, 1, [4]int{}, api.OK)
	addRefused(t, rs, 4, 0)
	addRefused(t, rs, 0, 4)
	addRefused(t, rs, -1, 0)
	addRefused(t, rs, 0, -1)
	addRefused(t, [4]int{10, 256, 130, 240}, 0, 2)
	addRefused(t, [4]int{10, 20, 130, -1}, 0, 1)
}

// Each value goes into each register, whatever is there; the others stay.
func TestSetEveryRegisterAtEveryEdge(t *testing.T) {
	for _, rs := range rows {
		for a := range 4 {
			for _, old := range good {
				for value := range 256 {
					set(t, with(rs, a, old), a, value, with(rs, a, value), api.OK)
				}
			}
		}
	}
}

// All sums of two registers there are, below, at and beyond the greatest; b's and the other ones stay.
func TestAddEverySum(t *testing.T) {
	for a := range 4 {
		for b := range 4 {
			if a == b {
				continue
			}
			for x := range 256 {
				for y := range 256 {
					rs := with(with([4]int{7, 77, 177, 250}, a, x), b, y)
					add(t, rs, a, b, with(rs, a, roundSum(x, y)), api.OK)
				}
			}
		}
	}
}

func TestAddARegisterToItself(t *testing.T) {
	for _, rs := range rows {
		for a := range 4 {
			for x := range 256 {
				add(t, with(rs, a, x), a, a, with(rs, a, roundSum(x, x)), api.OK)
			}
		}
	}
}

// The registers that are not named do not count, at either end of theirs.
func TestAddAsksNoOtherRegister(t *testing.T) {
	for _, rs := range rows {
		for a := range 4 {
			for b := range 4 {
				add(t, rs, a, b, with(rs, a, roundSum(rs[a], rs[b])), api.OK)
			}
		}
	}
}

// A wrong register stands in each place, the ones that are named and each other one; Set would even write over it.
func TestWrongRegisters(t *testing.T) {
	for _, wrong := range far {
		for _, rs := range rows {
			for at := range 4 {
				bad := with(rs, at, wrong)
				for a := range 4 {
					for _, value := range good {
						setRefused(t, bad, a, value)
					}
					for b := range 4 {
						addRefused(t, bad, a, b)
					}
				}
			}
		}
	}
}

// Two wrong registers whose sum would do are wrong all the same.
func TestSeveralWrongRegisters(t *testing.T) {
	for _, wrong := range far {
		for _, other := range append([]int{-wrong, 255 - wrong}, far...) {
			if other >= 0 && other <= 255 {
				continue
			}
			for a := range 4 {
				bad := with([4]int{wrong, wrong, wrong, wrong}, a, other)
				setRefused(t, bad, a, 5)
				addRefused(t, bad, a, (a+1)%4)
				addRefused(t, bad, (a+1)%4, a)
				addRefused(t, bad, a, a)
			}
		}
	}
}

func TestWrongNumbers(t *testing.T) {
	for _, wrong := range wrongNumbers() {
		for _, rs := range rows {
			for _, value := range good {
				setRefused(t, rs, wrong, value)
			}
			for n := range 4 {
				addRefused(t, rs, wrong, n)
				addRefused(t, rs, n, wrong)
			}
			addRefused(t, rs, wrong, wrong)
		}
	}
}

func TestWrongValues(t *testing.T) {
	for _, wrong := range far {
		for _, rs := range rows {
			for a := range 4 {
				setRefused(t, rs, a, wrong)
			}
		}
	}
}

func TestAllIsWrong(t *testing.T) {
	for _, wrong := range far {
		for _, other := range far {
			setRefused(t, [4]int{1, 2, 3, 4}, wrong, other)
			setRefused(t, [4]int{wrong, 0, 0, 0}, 0, other)
			setRefused(t, [4]int{wrong, wrong, wrong, wrong}, other, wrong)
			addRefused(t, [4]int{1, 2, 3, 4}, wrong, other)
			addRefused(t, [4]int{0, 0, 0, wrong}, 3, other)
			addRefused(t, [4]int{wrong, wrong, wrong, wrong}, other, wrong)
		}
	}
}

func TestWhatIsHandedInStays(t *testing.T) {
	rs := [4]int{1, 2, 3, 4}
	for n := -1; n <= 4; n++ {
		Set(rs, n, 200)
		Set(rs, n, 256)
		for m := -1; m <= 4; m++ {
			Add(rs, n, m)
		}
		if rs != [4]int{1, 2, 3, 4} {
			t.Fatalf("R4: the registers became %v", rs)
		}
	}
}

// The same calls answer the same again, behind calls that are refused, and from several goroutines at one time.
func TestAnswersHangOnArgumentsAlone(t *testing.T) {
	var all sync.WaitGroup
	for range 8 {
		all.Add(1)
		go func() {
			defer all.Done()
			for range 100 {
				set(t, [4]int{1, 2, 3, 4}, 2, 9, [4]int{1, 2, 9, 4}, api.OK)
				add(t, [4]int{1, 2, 3, 254}, 3, 2, [4]int{1, 2, 3, 1}, api.OK)
				setRefused(t, [4]int{1, 2, 3, 4}, 2, 256)
				addRefused(t, [4]int{1, 2, 3, 4}, 4, 2)
			}
		}()
	}
	all.Wait()
}
