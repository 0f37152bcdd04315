package arena

import (
	"math"
	"slices"
	"sync"
	"testing"

	"veil/api"
)

type words = [4][]api.Word

// The ends are written out as numbers, so that they share no name with what they test.
var (
	values   = []int{0, 1, 2, 127, 128, 254, 255}
	versions = []int{0, 1, 255, 256, 65534, 65535}
	locks    = []int{0, 1, 2, 127, 128, 254, 255}
)

// far are wrong in every place: negative ones, ones whose low bits would do, and the ends of the number kinds.
var far = []int{
	-1, -2, -3, -4, -5, -255, -256, -65536, 1 << 16, 1<<16 + 1, 1 << 31, 1 << 32, 1<<32 + 1, 1 << 62,
	math.MaxInt32, math.MaxUint32, math.MaxInt - 1, math.MaxInt, math.MinInt32, math.MinInt, math.MinInt + 1,
}

func wrongValues() []int { return append([]int{256, 257, 511, 65535}, far...) }
func wrongLevels() []int { return append([]int{4, 5, 6, 7, 8, 255, 256}, far...) }

// badWords have one wrong field each, the others at their ends, and last some whose fields are all wrong.
func badWords() []api.Word {
	var all []api.Word
	for _, x := range wrongValues() {
		all = append(all, api.Word{Value: x}, api.Word{Value: x, Version: 65535, Lock: 255})
		all = append(all, api.Word{Lock: x}, api.Word{Value: 255, Version: 65535, Lock: x})
	}
	for _, x := range append([]int{65537, 131071}, far...) {
		all = append(all, api.Word{Version: x}, api.Word{Value: 255, Version: x, Lock: 255}, api.Word{Value: x, Version: x, Lock: x})
	}
	return all
}

// goodWords are all words of the numbers above.
func goodWords() []api.Word {
	var all []api.Word
	for _, v := range values {
		for _, n := range versions {
			for _, l := range locks {
				all = append(all, api.Word{Value: v, Version: n, Lock: l})
			}
		}
	}
	return all
}

// mark is one word a place, each another one.
func mark(level int, index int) api.Word {
	return api.Word{Value: 10*level + index + 1, Version: 1000*level + index + 1, Lock: (level + index) % 3}
}

// sized makes an arena of marks, of so many words a level.
func sized(sizes [4]int) words {
	var ws words
	for level, n := range sizes {
		for index := range n {
			ws[level] = append(ws[level], mark(level, index))
		}
	}
	return ws
}

// allSizes are all arenas of marks: each level has from no word to four.
func allSizes() []words {
	var all []words
	for n := range 625 {
		all = append(all, sized([4]int{n % 5, n / 5 % 5, n / 25 % 5, n / 125}))
	}
	return all
}

func full() words { return sized([4]int{4, 4, 4, 4}) }

// with is an arena with w at one place, made anew.
func with(ws words, level int, index int, w api.Word) words {
	next := cloned(ws)
	next[level][index] = w
	return next
}

func cloned(ws words) words {
	var next words
	for level := range ws {
		next[level] = slices.Clone(ws[level])
	}
	return next
}

// same holds an empty list and nil for one, as DOC.md does.
func same(a words, b words) bool {
	for level := range a {
		if !slices.Equal(a[level], b[level]) {
			return false
		}
	}
	return true
}

func got(t *testing.T, ws words, level int, index int, want api.Word, errno api.Errno) {
	t.Helper()
	if w, e := Get(ws, level, index); w != want || e != errno {
		t.Errorf("P4.2: Get(%v, %d, %d) = %v, %d, want %v, %d", ws, level, index, w, e, want, errno)
	}
}

func put(t *testing.T, ws words, level int, index int, w api.Word, want words, errno api.Errno) {
	t.Helper()
	if next, e := Put(ws, level, index, w); !same(next, want) || e != errno {
		t.Errorf("P4.2: Put(%v, %d, %d, %v) = %v, %d, want %v, %d", ws, level, index, w, next, e, want, errno)
	}
}

// refused asks both, and puts a word that may be, so that what is wrong is elsewhere.
func refused(t *testing.T, ws words, level int, index int) {
	t.Helper()
	got(t, ws, level, index, api.Word{}, api.ErrArenaForm)
	put(t, ws, level, index, api.Word{Value: 7, Version: 8, Lock: 9}, words{}, api.ErrArenaForm)
}

func made(t *testing.T, vs [4][]int, want words, errno api.Errno) {
	t.Helper()
	if ws, e := New(vs); !same(ws, want) || e != errno {
		t.Errorf("P4.1: New(%v) = %v, %d, want %v, %d", vs, ws, e, want, errno)
	}
}

func TestLimits(t *testing.T) {
	if api.Levels != 4 || api.MaxWords != 4 || api.MaxValue != 255 || api.MaxClock != 65535 || api.MaxId != 254 {
		t.Fatal("the numbers of these tests are not those of package api")
	}
}

// These are written out whole, answers too.
func TestOrdinaryArenas(t *testing.T) {
	vs := [4][]int{{5, 0}, nil, {255}, {1, 2, 3, 4}}
	ws := words{{{Value: 5}, {}}, nil, {{Value: 255}}, {{Value: 1}, {Value: 2}, {Value: 3}, {Value: 4}}}
	made(t, vs, ws, api.OK)
	if !May(ws) {
		t.Errorf("P4.1: May(%v) is false", ws)
	}
	got(t, ws, 0, 0, api.Word{Value: 5}, api.OK)
	got(t, ws, 0, 1, api.Word{}, api.OK)
	got(t, ws, 2, 0, api.Word{Value: 255}, api.OK)
	got(t, ws, 3, 3, api.Word{Value: 4}, api.OK)
	refused(t, ws, 1, 0)
	w := api.Word{Value: 9, Version: 8, Lock: 7}
	put(t, ws, 0, 1, w, words{{{Value: 5}, w}, nil, {{Value: 255}}, {{Value: 1}, {Value: 2}, {Value: 3}, {Value: 4}}}, api.OK)
	put(t, ws, 2, 0, w, words{{{Value: 5}, {}}, nil, {w}, {{Value: 1}, {Value: 2}, {Value: 3}, {Value: 4}}}, api.OK)
	put(t, ws, 3, 0, w, words{{{Value: 5}, {}}, nil, {{Value: 255}}, {w, {Value: 2}, {Value: 3}, {Value: 4}}}, api.OK)
}

func TestNoWords(t *testing.T) {
	empty := words{{}, {}, {}, {}}
	made(t, [4][]int{}, words{}, api.OK)
	made(t, [4][]int{{}, {}, {}, {}}, words{}, api.OK)
	made(t, [4][]int{nil, {}, nil, {}}, words{}, api.OK)
	for _, ws := range []words{{}, empty, {nil, {}, nil, {}}} {
		if !May(ws) {
			t.Errorf("P4.1: May(%v) is false", ws)
		}
		for level := range 4 {
			for _, index := range append([]int{0, 1, 3, 4}, far...) {
				refused(t, ws, level, index)
			}
		}
	}
}

func TestNewOfAllSizes(t *testing.T) {
	for _, ws := range allSizes() {
		var vs [4][]int
		want := cloned(ws)
		for level := range ws {
			for index, w := range ws[level] {
				vs[level] = append(vs[level], w.Value)
				want[level][index] = api.Word{Value: w.Value}
			}
		}
		made(t, vs, want, api.OK)
	}
}

func TestNewOfAllValues(t *testing.T) {
	for level := range 4 {
		for index := range 4 {
			for v := range 256 {
				vs := [4][]int{{1, 1, 1, 1}, {1, 1, 1, 1}, {1, 1, 1, 1}, {1, 1, 1, 1}}
				vs[level][index] = v
				ws, e := New(vs)
				if e != api.OK || ws[level][index] != (api.Word{Value: v}) {
					t.Errorf("P4.1: New(%v) = %v, %d", vs, ws, e)
				}
			}
		}
	}
}

func TestNewOfWrongValues(t *testing.T) {
	for level := range 4 {
		for n := range 4 {
			for index := range n + 1 {
				for _, v := range wrongValues() {
					alone := [4][]int{}
					alone[level] = make([]int, n+1)
					alone[level][index] = v
					made(t, alone, words{}, api.ErrArenaForm)
					among := [4][]int{{0, 1, 2, 3}, {0, 1, 2, 3}, {0, 1, 2, 3}, {0, 1, 2, 3}}
					among[level][index] = v
					made(t, among, words{}, api.ErrArenaForm)
				}
			}
		}
	}
}

func TestNewOfTooMany(t *testing.T) {
	for level := range 4 {
		for _, n := range []int{5, 6, 8, 16, 255, 256, 1 << 20} {
			alone := [4][]int{}
			alone[level] = make([]int, n)
			made(t, alone, words{}, api.ErrArenaForm)
			among := [4][]int{{0, 1, 2, 3}, {0, 1, 2, 3}, {0, 1, 2, 3}, {0, 1, 2, 3}}
			among[level] = make([]int, n)
			made(t, among, words{}, api.ErrArenaForm)
		}
	}
	made(t, [4][]int{{0, 0, 0, 0, -1}, {256}, nil, nil}, words{}, api.ErrArenaForm)
}

func TestMayOfAllSizes(t *testing.T) {
	for _, ws := range allSizes() {
		if !May(ws) {
			t.Errorf("P4.1: May(%v) is false", ws)
		}
	}
}

func TestGoodWordsInAllPlaces(t *testing.T) {
	for level := range 4 {
		for index := range 4 {
			for _, w := range goodWords() {
				ws := with(full(), level, index, w)
				if !May(ws) {
					t.Errorf("P4.1: May(%v) is false", ws)
				}
				got(t, ws, level, index, w, api.OK)
				put(t, full(), level, index, w, ws, api.OK)
			}
		}
	}
}

// mayNotBe asks of every place of the arena, good ones too: a wrong one elsewhere is told all the same.
func mayNotBe(t *testing.T, ws words) {
	t.Helper()
	if May(ws) {
		t.Errorf("P4.1: May(%v) is true", ws)
	}
	for level := range 4 {
		for index := range len(ws[level]) {
			if index < 8 {
				refused(t, ws, level, index)
			}
		}
	}
}

func TestWrongWordsInAllPlaces(t *testing.T) {
	for level := range 4 {
		for index := range 4 {
			for _, w := range badWords() {
				mayNotBe(t, with(full(), level, index, w))
			}
		}
	}
}

func TestWrongWordAlone(t *testing.T) {
	for level := range 4 {
		for _, w := range badWords() {
			var ws words
			ws[level] = []api.Word{w}
			mayNotBe(t, ws)
		}
	}
}

func TestTooManyWords(t *testing.T) {
	for level := range 4 {
		for _, n := range []int{5, 6, 8, 16, 255, 256, 1 << 12} {
			var alone words
			alone[level] = make([]api.Word, n)
			mayNotBe(t, alone)
			among := full()
			among[level] = make([]api.Word, n)
			mayNotBe(t, among)
		}
	}
}

func TestAllPlaces(t *testing.T) {
	w := api.Word{Value: 200, Version: 60000, Lock: 250}
	for _, ws := range allSizes() {
		for level := range 4 {
			for index := range 6 {
				if index >= len(ws[level]) {
					refused(t, ws, level, index)
					continue
				}
				got(t, ws, level, index, mark(level, index), api.OK)
				put(t, ws, level, index, w, with(ws, level, index, w), api.OK)
			}
		}
	}
}

func TestWrongLevelsAndIndexes(t *testing.T) {
	for _, ws := range []words{full(), sized([4]int{1, 2, 3, 4}), sized([4]int{4, 0, 1, 0})} {
		for _, level := range wrongLevels() {
			for _, index := range append([]int{0, 1, 2, 3, 4}, far...) {
				refused(t, ws, level, index)
			}
		}
		for level := range 4 {
			for _, index := range append([]int{4, 5, 8, 255, 256}, far...) {
				refused(t, ws, level, index)
			}
		}
	}
}

func TestWrongWordPut(t *testing.T) {
	for _, w := range badWords() {
		for level := range 4 {
			for index := range 4 {
				put(t, full(), level, index, w, words{}, api.ErrArenaForm)
			}
		}
		put(t, full(), 4, 0, w, words{}, api.ErrArenaForm)
		put(t, full(), 0, -1, w, words{}, api.ErrArenaForm)
		put(t, with(full(), 2, 2, w), 2, 2, w, words{}, api.ErrArenaForm)
	}
}

// roomy lays each level at the middle of a longer list of spare; wholes are these.
func roomy[T any](ws [4][]T, spare T) (parts [4][]T, wholes [4][]T) {
	for level := range ws {
		wholes[level] = slices.Concat([]T{spare}, ws[level], []T{spare, spare, spare, spare, spare})
		parts[level] = wholes[level][1 : 1+len(ws[level])]
	}
	return parts, wholes
}

// A word that lies in the spare room may be, but is none of the level's.
func TestSpareRoomIsNoWord(t *testing.T) {
	for _, ws := range allSizes() {
		parts, _ := roomy(ws, api.Word{Value: 3, Version: 4, Lock: 5})
		for level := range 4 {
			refused(t, parts, level, len(ws[level]))
			refused(t, parts, level, -1)
		}
	}
}

// Words that may not be, in the spare room, are nobody's either.
func TestSpareRoomIsNotAsked(t *testing.T) {
	for _, ws := range allSizes() {
		parts, _ := roomy(ws, api.Word{Value: -1, Version: -1, Lock: -1})
		if !May(parts) {
			t.Errorf("P4.1: May(%v) is false", parts)
		}
		for level := range 4 {
			for index := range ws[level] {
				got(t, parts, level, index, mark(level, index), api.OK)
			}
		}
	}
}

func TestWhatIsHandedInStays(t *testing.T) {
	w := api.Word{Value: 200, Version: 60000, Lock: 250}
	for _, ws := range append(allSizes(), with(full(), 1, 2, api.Word{Value: 256}), sized([4]int{0, 5, 1, 2})) {
		parts, wholes := roomy(ws, api.Word{Value: 77, Version: 78, Lock: 79})
		old := cloned(wholes)
		May(parts)
		for level := -1; level <= 4; level++ {
			for index := -1; index <= 5; index++ {
				Get(parts, level, index)
				Put(parts, level, index, w)
				Put(parts, level, index, api.Word{Lock: 256})
			}
		}
		if !same(wholes, old) {
			t.Errorf("R4: %v became %v", old, wholes)
		}
	}
}

func TestValuesHandedInStay(t *testing.T) {
	for _, vs := range [][4][]int{{}, {{1, 2}, nil, {3}, {4, 5, 6, 7}}, {{1, 2}, {256}, {3}, {4}}, {{1, 2, 3, 4, 5}, {6}, nil, {7}}} {
		parts, wholes := roomy(vs, 77)
		_, old := roomy(vs, 77)
		New(parts)
		for level := range wholes {
			if !slices.Equal(wholes[level], old[level]) {
				t.Errorf("R4: %v became %v", old, wholes)
			}
		}
	}
}

// scribble writes over a list's words and all of its room.
func scribble(list []api.Word) {
	list = list[:cap(list)]
	for i := range list {
		list[i] = api.Word{Value: -7, Version: -7, Lock: -7}
	}
}

// apart writes over one level of an answer at a time, its room too, and looks whether another one turned.
func apart(t *testing.T, answer words) {
	t.Helper()
	for level := range answer {
		rest := cloned(answer)
		scribble(answer[level])
		for other := range answer {
			if other != level && !slices.Equal(answer[other], rest[other]) {
				t.Errorf("R4: writing over level %d turned level %d: %v became %v", level, other, rest, answer)
			}
		}
	}
}

func TestAnswersOfPutAreNew(t *testing.T) {
	w := api.Word{Value: 200, Version: 60000, Lock: 250}
	for _, ws := range allSizes() {
		parts, wholes := roomy(ws, api.Word{Value: 77, Version: 78, Lock: 79})
		old := cloned(wholes)
		for level := range ws {
			for index := range ws[level] {
				first, _ := Put(parts, level, index, w)
				second, _ := Put(parts, level, index, w)
				apart(t, first)
				if !same(wholes, old) || !same(second, with(ws, level, index, w)) {
					t.Fatalf("R4: writing over an answer: %v became %v, another answer %v", old, wholes, second)
				}
			}
		}
	}
}

// An argument that is written over behind the call turns no answer: it is not kept.
func TestArgumentsOfPutAreNotKept(t *testing.T) {
	w := api.Word{Value: 200, Version: 60000, Lock: 250}
	ws := full()
	next, _ := Put(ws, 2, 1, w)
	for level := range ws {
		scribble(ws[level])
	}
	if !same(next, with(full(), 2, 1, w)) {
		t.Errorf("R4: writing over an argument made the answer %v", next)
	}
}

func TestAnswersOfNewAreNew(t *testing.T) {
	for n := range 625 {
		sizes := [4]int{n % 5, n / 5 % 5, n / 25 % 5, n / 125}
		var vs [4][]int
		var want words
		for level, n := range sizes {
			vs[level] = []int{1, 2, 3, 4}[:n]
			want[level] = []api.Word{{Value: 1}, {Value: 2}, {Value: 3}, {Value: 4}}[:n]
		}
		first, _ := New(vs)
		second, _ := New(vs)
		apart(t, first)
		if third, _ := New(vs); !same(second, want) || !same(third, want) {
			t.Fatalf("R4: writing over an answer of New(%v) made others %v, %v", vs, second, third)
		}
	}
}

// Levels that are handed in as one list are four levels of the answer.
func TestOneListForAllLevels(t *testing.T) {
	one := []api.Word{{Value: 1}, {Value: 2}, {Value: 3}}
	w := api.Word{Value: 200, Version: 60000, Lock: 250}
	for level := range 4 {
		want := words{slices.Clone(one), slices.Clone(one), slices.Clone(one), slices.Clone(one)}
		want[level][1] = w
		put(t, words{one, one, one, one}, level, 1, w, want, api.OK)
		next, _ := Put(words{one, one, one, one}, level, 1, w)
		apart(t, next)
	}
	values := []int{1, 2, 3}
	next, _ := New([4][]int{values, values, values, values})
	apart(t, next)
}

// Every goroutine asks the same of one arena, some of it wrong, and is answered the same: nothing is kept from call to call.
func TestManyGoroutines(t *testing.T) {
	ws := full()
	vs := [4][]int{{1, 2}, nil, {3}, {4, 5, 6, 7}}
	want := words{{{Value: 1}, {Value: 2}}, nil, {{Value: 3}}, {{Value: 4}, {Value: 5}, {Value: 6}, {Value: 7}}}
	var all sync.WaitGroup
	for n := range 8 {
		all.Add(1)
		go func() {
			defer all.Done()
			w := api.Word{Value: n, Version: n, Lock: n}
			for level := range 4 {
				for index := range 4 {
					put(t, ws, level, index, w, with(full(), level, index, w), api.OK)
					got(t, ws, level, index, mark(level, index), api.OK)
					refused(t, ws, level, index+4)
					made(t, vs, want, api.OK)
				}
			}
		}()
	}
	all.Wait()
}
