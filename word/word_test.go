package word

import (
	"math"
	"sync"
	"testing"

	"veil/api"
)

// The ends are written out as numbers, so that they share no name with what they test.
var (
	values   = []int{0, 1, 2, 7, 127, 128, 254, 255}
	versions = []int{0, 1, 2, 7, 255, 256, 32767, 32768, 65534, 65535}
	locks    = []int{0, 1, 2, 7, 127, 128, 254, 255}
	ids      = []int{0, 1, 2, 7, 127, 128, 253, 254}
)

// far are wrong in every place: negative ones, ones whose low bits would do, and the ends of the number kinds.
var far = []int{
	-1, -2, -254, -255, -256, -257, -65535, -65536, -65537, 1 << 16, 1<<16 + 1, 1 << 31, 1 << 32, 1<<32 + 1, 1 << 62,
	math.MaxInt32, math.MaxUint32, math.MaxInt - 1, math.MaxInt, math.MinInt32, math.MinInt, math.MinInt + 1,
}

// Each kind of number has its own first one beyond the greatest.
func wrongValues() []int   { return append([]int{256, 257, 511, 512, 65535}, far...) }
func wrongVersions() []int { return append([]int{65536, 65537, 131071}, far...) }
func wrongLocks() []int    { return append([]int{256, 257, 511, 512, 65535}, far...) }
func wrongIds() []int      { return append([]int{255, 256, 257, 511, 512, 65535}, far...) }

// goodWords are all words of the numbers above, free and locked ones.
func goodWords() []api.Word {
	var all []api.Word
	for _, v := range values {
		for _, n := range versions {
			for _, l := range locks {
				all = append(all, api.Word{Value: v, Version: n, Lock: l})
			}
		}
	}
	return all
}

// edgeWords are those whose fields stand at their ends, so that one wrong number beside them stands alone.
func edgeWords() []api.Word {
	var all []api.Word
	for _, v := range []int{0, 255} {
		for _, n := range []int{0, 65535} {
			for _, l := range []int{0, 1, 255} {
				all = append(all, api.Word{Value: v, Version: n, Lock: l})
			}
		}
	}
	return all
}

// badWords have one wrong field, or two, or three.
func badWords() []api.Word {
	var all []api.Word
	for _, w := range edgeWords() {
		for _, x := range wrongValues() {
			all = append(all, api.Word{Value: x, Version: w.Version, Lock: w.Lock})
		}
		for _, x := range wrongVersions() {
			all = append(all, api.Word{Value: w.Value, Version: x, Lock: w.Lock})
		}
		for _, x := range wrongLocks() {
			all = append(all, api.Word{Value: w.Value, Version: w.Version, Lock: x})
		}
		all = append(all, severalWrong(w)...)
	}
	return all
}

func severalWrong(w api.Word) []api.Word {
	var all []api.Word
	for _, x := range far {
		for _, y := range []int{-1, 65536, math.MinInt, math.MaxInt} {
			all = append(all,
				api.Word{Value: x, Version: y, Lock: w.Lock},
				api.Word{Value: x, Version: w.Version, Lock: y},
				api.Word{Value: w.Value, Version: x, Lock: y},
				api.Word{Value: x, Version: y, Lock: x},
				api.Word{Value: y, Version: x, Lock: x},
			)
		}
	}
	return all
}

func TestLimits(t *testing.T) {
	if api.MaxValue != 255 || api.MaxClock != 65535 || api.MaxId != 254 {
		t.Fatal("the numbers of these tests are not those of package api")
	}
}

func TestMay(t *testing.T) {
	for _, w := range goodWords() {
		if !May(w) {
			t.Errorf("P3.1: May(%v) is false", w)
		}
	}
	for _, w := range badWords() {
		if May(w) {
			t.Errorf("P3.1: May(%v) is true", w)
		}
	}
}

func locked(t *testing.T, w api.Word, id int, want api.Word, errno api.Errno) {
	t.Helper()
	if got, e := Lock(w, id); got != want || e != errno {
		t.Errorf("P3.1: Lock(%v, %d) = %v, %d, want %v, %d", w, id, got, e, want, errno)
	}
}

func freed(t *testing.T, w api.Word, want api.Word, errno api.Errno) {
	t.Helper()
	if got, e := Free(w); got != want || e != errno {
		t.Errorf("P3.1: Free(%v) = %v, %d, want %v, %d", w, got, e, want, errno)
	}
}

func written(t *testing.T, w api.Word, value int, version int, want api.Word, errno api.Errno) {
	t.Helper()
	if got, e := Write(w, value, version); got != want || e != errno {
		t.Errorf("P3.1: Write(%v, %d, %d) = %v, %d, want %v, %d", w, value, version, got, e, want, errno)
	}
}

// These are written out whole, answers too.
func TestOrdinaryWords(t *testing.T) {
	locked(t, api.Word{Value: 5, Version: 9}, 0, api.Word{Value: 5, Version: 9, Lock: 1}, api.OK)
	locked(t, api.Word{Value: 5, Version: 9}, 254, api.Word{Value: 5, Version: 9, Lock: 255}, api.OK)
	locked(t, api.Word{}, 3, api.Word{Lock: 4}, api.OK)
	locked(t, api.Word{Value: 255, Version: 65535}, 3, api.Word{Value: 255, Version: 65535, Lock: 4}, api.OK)
	locked(t, api.Word{Value: 5, Version: 9, Lock: 1}, 3, api.Word{}, api.ErrWordLocked)
	freed(t, api.Word{Value: 5, Version: 9, Lock: 4}, api.Word{Value: 5, Version: 9}, api.OK)
	freed(t, api.Word{Value: 5, Version: 9}, api.Word{Value: 5, Version: 9}, api.OK)
	freed(t, api.Word{Value: 255, Version: 65535, Lock: 255}, api.Word{Value: 255, Version: 65535}, api.OK)
	written(t, api.Word{Value: 5, Version: 9, Lock: 4}, 6, 10, api.Word{Value: 6, Version: 10}, api.OK)
	written(t, api.Word{Value: 5, Version: 9}, 6, 10, api.Word{Value: 6, Version: 10}, api.OK)
	written(t, api.Word{Value: 5, Version: 9, Lock: 255}, 255, 65535, api.Word{Value: 255, Version: 65535}, api.OK)
	written(t, api.Word{Value: 5, Version: 9, Lock: 4}, 0, 0, api.Word{}, api.OK)
}

// Only a free word is locked; the one who locked it is refused like any other.
func TestLock(t *testing.T) {
	for _, w := range goodWords() {
		for _, id := range ids {
			if w.Lock != 0 {
				locked(t, w, id, api.Word{}, api.ErrWordLocked)
				continue
			}
			mine := api.Word{Value: w.Value, Version: w.Version, Lock: id + 1}
			locked(t, w, id, mine, api.OK)
			locked(t, mine, id, api.Word{}, api.ErrWordLocked)
		}
	}
}

func TestFree(t *testing.T) {
	for _, w := range goodWords() {
		freed(t, w, api.Word{Value: w.Value, Version: w.Version}, api.OK)
	}
}

// A version may be lower than the word's, or the same: no order of versions is asked here.
func TestWrite(t *testing.T) {
	for _, w := range goodWords() {
		for _, value := range values {
			for _, version := range versions {
				written(t, w, value, version, api.Word{Value: value, Version: version}, api.OK)
			}
		}
	}
}

// A wrong Id is told ahead of a lock: locked words and free ones are refused by the same number.
func TestWrongIds(t *testing.T) {
	for _, w := range goodWords() {
		for _, id := range wrongIds() {
			locked(t, w, id, api.Word{}, api.ErrWordForm)
		}
	}
}

func TestWrongNumbersWritten(t *testing.T) {
	for _, w := range edgeWords() {
		for _, value := range wrongValues() {
			for _, version := range versions {
				written(t, w, value, version, api.Word{}, api.ErrWordForm)
			}
			for _, version := range wrongVersions() {
				written(t, w, value, version, api.Word{}, api.ErrWordForm)
			}
		}
		for _, version := range wrongVersions() {
			for _, value := range values {
				written(t, w, value, version, api.Word{}, api.ErrWordForm)
			}
		}
	}
}

// A word that may not be is no word to lock, to free, or to write over, whatever is told beside it; its form is told ahead of its lock.
func TestWrongWords(t *testing.T) {
	for _, w := range badWords() {
		for _, id := range []int{0, 254, 255, -1, math.MaxInt} {
			locked(t, w, id, api.Word{}, api.ErrWordForm)
		}
		freed(t, w, api.Word{}, api.ErrWordForm)
		for _, value := range []int{0, 255, 256, -1, math.MaxInt} {
			for _, version := range []int{0, 65535, 65536, -1, math.MinInt} {
				written(t, w, value, version, api.Word{}, api.ErrWordForm)
			}
		}
	}
}

func TestLockThenFree(t *testing.T) {
	for _, w := range goodWords() {
		open, _ := Free(w)
		for _, id := range ids {
			mine, _ := Lock(open, id)
			freed(t, mine, open, api.OK)
		}
	}
}

// Every goroutine asks the same, some of it wrong, and is answered the same: nothing is kept from call to call.
func TestManyGoroutines(t *testing.T) {
	var all sync.WaitGroup
	for range 8 {
		all.Add(1)
		go func() {
			defer all.Done()
			for _, w := range edgeWords() {
				freed(t, w, api.Word{Value: w.Value, Version: w.Version}, api.OK)
				written(t, w, 6, 10, api.Word{Value: 6, Version: 10}, api.OK)
				written(t, w, 256, 10, api.Word{}, api.ErrWordForm)
				locked(t, w, 255, api.Word{}, api.ErrWordForm)
			}
		}()
	}
	all.Wait()
}
