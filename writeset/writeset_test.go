package writeset

import (
	"math"
	"slices"
	"sync"
	"testing"

	"veil/api"
)

// The limits are written out as numbers, so that they share no name with what they test.
const (
	maxInsts     = 16
	maxValue     = 255
	writesetForm = 1000
)

// far are wrong in every field: negative ones, ones whose low bits would do, and the ends of the number kinds.
var far = []int{
	-1, -2, -3, -4, -5, -255, -256, -65536, 256, 257, 511, 65535, 65536, 65537, 1 << 31, 1 << 32, 1<<32 + 1, 1 << 62,
	math.MaxInt32, math.MaxUint32, math.MaxInt - 1, math.MaxInt, math.MinInt32, math.MinInt, math.MinInt + 1,
}

func wrongPlaces() []int { return append([]int{4, 5, 6, 7, 8, 15, 16, 255}, far...) }

// badWrites have one wrong field each, the others at their ends, and last some whose fields are all wrong.
func badWrites() []api.Write {
	var all []api.Write
	for _, x := range wrongPlaces() {
		all = append(all, api.Write{Level: x}, api.Write{Level: x, Index: 3, Value: maxValue})
		all = append(all, api.Write{Index: x}, api.Write{Level: 3, Index: x, Value: maxValue})
	}
	for _, x := range far {
		all = append(all, api.Write{Value: x}, api.Write{Level: 3, Index: 3, Value: x}, api.Write{Level: x, Index: x, Value: x})
	}
	return all
}

// writeAt is of the n-th word of the row, with a Value of its own; none has Value 0.
func writeAt(n int) api.Write {
	return api.Write{Level: n / 4, Index: n % 4, Value: 15*n + 7}
}

// row are writes of all sixteen words.
func row() []api.Write {
	var ws []api.Write
	for n := range 16 {
		ws = append(ws, writeAt(n))
	}
	return ws
}

// rowOf are writes of the words whose bits are set, in their row.
func rowOf(set int) []api.Write {
	var ws []api.Write
	for n := range 16 {
		if set>>n&1 == 1 {
			ws = append(ws, writeAt(n))
		}
	}
	return ws
}

// orders are all sixteen words, each once, one by one in several rows.
func orders() [][]api.Write {
	var byIndex, mixed []api.Write
	for n := range 16 {
		byIndex = append(byIndex, writeAt(n%4*4+n/4))
		mixed = append(mixed, writeAt(n*5%16))
	}
	falling := row()
	slices.Reverse(falling)
	return [][]api.Write{row(), byIndex, mixed, falling}
}

// with is a new list, ws with w at that place.
func with(ws []api.Write, at int, w api.Write) []api.Write {
	ws = slices.Clone(ws)
	ws[at] = w
	return ws
}

func mayBe(t *testing.T, ws []api.Write) {
	t.Helper()
	if !May(ws) {
		t.Errorf("P10.1: May(%v) is false", ws)
	}
}

// mayNotBe: every call tells it, whatever it is asked of such writes, even what would hold of them.
func mayNotBe(t *testing.T, ws []api.Write) {
	t.Helper()
	if May(ws) {
		t.Errorf("P10.1: May(%v) is true", ws)
	}
	withRefused(t, ws, api.Write{})
	withRefused(t, ws, api.Write{Level: 3, Index: 3, Value: maxValue})
	for _, w := range ws {
		findIs(t, ws, w.Level, w.Index, 0, false)
		atIs(t, ws, w.Level, false)
	}
}

func withIs(t *testing.T, ws []api.Write, w api.Write, want []api.Write) {
	t.Helper()
	if got, e := With(ws, w); !slices.Equal(got, want) || e != api.OK {
		t.Errorf("P10.1: With(%v, %v) = %v, %d, want %v, 0", ws, w, got, e, want)
	}
}

func withRefused(t *testing.T, ws []api.Write, w api.Write) {
	t.Helper()
	if got, e := With(ws, w); got != nil || e != writesetForm {
		t.Errorf("P10.1: With(%v, %v) = %v, %d, want nil, 1000", ws, w, got, e)
	}
}

func findIs(t *testing.T, ws []api.Write, level int, index int, value int, is bool) {
	t.Helper()
	if v, ok := Find(ws, level, index); v != value || ok != is {
		t.Errorf("P10.2: Find(%v, %d, %d) = %d, %v, want %d, %v", ws, level, index, v, ok, value, is)
	}
}

func atIs(t *testing.T, ws []api.Write, level int, want bool) {
	t.Helper()
	if At(ws, level) != want {
		t.Errorf("P10.2: At(%v, %d) is %v", ws, level, !want)
	}
}

func TestLimits(t *testing.T) {
	if api.Levels != 4 || api.MaxWords != 4 || api.MaxInsts != maxInsts || api.MaxValue != maxValue || api.ErrWritesetForm != writesetForm || api.OK != 0 {
		t.Fatal("the numbers of these tests are not those of package api")
	}
}

// These are written out whole, answers too.
func TestOrdinaryWrites(t *testing.T) {
	one := []api.Write{{Level: 2, Index: 1, Value: 7}}
	two := []api.Write{{Level: 0, Index: 3, Value: 255}, {Level: 2, Index: 1, Value: 7}}
	mayBe(t, one)
	mayBe(t, two)
	withIs(t, nil, api.Write{Level: 2, Index: 1, Value: 7}, one)
	withIs(t, one, api.Write{Level: 0, Index: 3, Value: 255}, two)
	withIs(t, two, api.Write{Level: 2, Index: 1, Value: 0}, []api.Write{{Level: 0, Index: 3, Value: 255}, {Level: 2, Index: 1, Value: 0}})
	withIs(t, two, api.Write{Level: 2, Index: 0, Value: 9}, []api.Write{{Level: 0, Index: 3, Value: 255}, {Level: 2, Index: 0, Value: 9}, {Level: 2, Index: 1, Value: 7}})
	withIs(t, two, api.Write{Level: 2, Index: 2}, []api.Write{{Level: 0, Index: 3, Value: 255}, {Level: 2, Index: 1, Value: 7}, {Level: 2, Index: 2}})
	mayNotBe(t, []api.Write{{Level: 2, Index: 1, Value: 7}, {Level: 0, Index: 3, Value: 255}})
	mayNotBe(t, []api.Write{{Level: 2, Index: 1, Value: 7}, {Level: 2, Index: 0, Value: 7}})
	mayNotBe(t, []api.Write{{Level: 2, Index: 1, Value: 7}, {Level: 2, Index: 1, Value: 7}})
	mayNotBe(t, []api.Write{{Level: 4}})
	withRefused(t, one, api.Write{Index: 4})
	withRefused(t, one, api.Write{Value: 256})
	findIs(t, two, 0, 3, 255, true)
	findIs(t, two, 2, 1, 7, true)
	findIs(t, two, 1, 2, 0, false)
	findIs(t, two, 2, 3, 0, false)
	atIs(t, one, 2, true)
	atIs(t, one, 0, false)
	atIs(t, two, 0, false)
	atIs(t, two, 2, false)
}

// An empty list and nil are one.
func TestNoWrite(t *testing.T) {
	for _, none := range [][]api.Write{nil, {}, make([]api.Write, 0, 16), make([]api.Write, 3)[1:1]} {
		mayBe(t, none)
		for _, w := range row() {
			withIs(t, none, w, []api.Write{w})
			findIs(t, none, w.Level, w.Index, 0, false)
			atIs(t, none, w.Level, true)
		}
		for _, bad := range badWrites() {
			withRefused(t, none, bad)
			findIs(t, none, bad.Level, bad.Index, 0, false)
			atIs(t, none, bad.Level, true)
		}
	}
}

// Every set of words may be in its row; each word is asked for, and goes in: first, between, last, in the place of its own.
func TestEverySetOfWords(t *testing.T) {
	for set := range 1 << 16 {
		ws := rowOf(set)
		mayBe(t, ws)
		for n := range 16 {
			is, w := set>>n&1 == 1, writeAt(n)
			if is {
				findIs(t, ws, w.Level, w.Index, w.Value, true)
			} else {
				findIs(t, ws, w.Level, w.Index, 0, false)
				withIs(t, ws, w, rowOf(set|1<<n))
			}
		}
		for level := range 4 {
			atIs(t, ws, level, set&^(15<<(4*level)) == 0)
		}
		if t.Failed() {
			return
		}
	}
}

// One word's write takes the place of the one that is there, whatever both Values are; the others are as they were.
func TestInThePlaceOfItsWord(t *testing.T) {
	for _, set := range []int{1, 1 << 15, 0x8001, 0x0f0f, 0x5a5a, 0x7ffe, 0xffff} {
		ws := rowOf(set)
		for at, old := range ws {
			for _, value := range []int{0, 1, old.Value - 1, old.Value, old.Value + 1, 127, 128, 254, 255} {
				w := api.Write{Level: old.Level, Index: old.Index, Value: value}
				withIs(t, ws, w, with(ws, at, w))
				mayBe(t, with(ws, at, w))
				findIs(t, with(ws, at, w), w.Level, w.Index, value, true)
			}
		}
	}
}

// One by one all sixteen words are written, each twice, in any row; behind each step they stand in theirs.
func TestFromNoneToAll(t *testing.T) {
	for _, order := range orders() {
		var ws []api.Write
		set := 0
		for _, w := range order {
			set |= 1 << (4*w.Level + w.Index)
			for _, value := range []int{maxValue - w.Value, w.Value} {
				next, e := With(ws, api.Write{Level: w.Level, Index: w.Index, Value: value})
				if v, is := Find(next, w.Level, w.Index); e != api.OK || !May(next) || v != value || !is {
					t.Fatalf("P10.1: With(%v, %v) = %v, %d", ws, w, next, e)
				}
				ws = next
			}
			if !slices.Equal(ws, rowOf(set)) {
				t.Fatalf("P10.1: one by one: %v, want %v", ws, rowOf(set))
			}
		}
	}
}

// Every two words, and every three, in every row: they may be if they rise.
func TestRowsRise(t *testing.T) {
	for a := range 16 {
		for b := range 16 {
			two := []api.Write{writeAt(a), writeAt(b)}
			if a < b {
				mayBe(t, two)
			} else {
				mayNotBe(t, two)
			}
			for c := range 16 {
				three := append(slices.Clone(two), writeAt(c))
				if a < b && b < c {
					mayBe(t, three)
				} else {
					mayNotBe(t, three)
				}
			}
		}
	}
}

// Any two of a row change places, in rows of each length: it does not rise any more, at whatever place.
func TestRowsThatDoNotRise(t *testing.T) {
	for n := 2; n <= maxInsts; n++ {
		for first := range maxInsts + 1 - n {
			for i := range n {
				for j := range i {
					ws := row()[first : first+n]
					ws[i], ws[j] = ws[j], ws[i]
					mayNotBe(t, ws)
				}
			}
		}
	}
	for _, order := range orders()[1:] {
		mayNotBe(t, order)
	}
}

// Two of one word stand at each two places, beside each other and apart, of one Value and of two.
func TestTwoOfOneWord(t *testing.T) {
	for n := 2; n <= maxInsts; n++ {
		for i := range n {
			for j := range n {
				if i == j {
					continue
				}
				for _, value := range []int{row()[i].Value, row()[j].Value, 0, maxValue} {
					twin := row()[i]
					twin.Value = value
					mayNotBe(t, with(row()[:n], j, twin))
				}
			}
		}
	}
	for _, w := range row() {
		mayNotBe(t, []api.Write{w, w})
		mayNotBe(t, []api.Write{w, {Level: w.Level, Index: w.Index, Value: w.Value + 1}})
		mayNotBe(t, []api.Write{w, {Level: w.Level, Index: w.Index, Value: w.Value - 1}})
	}
}

// Lengths whose low bits would do are among them; more than sixteen hold one word twice, or one that may not be.
func TestTooMany(t *testing.T) {
	for n, w := range row() {
		mayNotBe(t, slices.Insert(row(), n, w))
		mayNotBe(t, append(row(), w))
		mayNotBe(t, slices.Insert(row(), 0, w))
	}
	for _, bad := range badWrites() {
		mayNotBe(t, append(row(), bad))
		withRefused(t, row(), bad)
	}
	for _, n := range []int{17, 18, 32, 255, 256, 257, 272, 65536, 65537, 65552, 1 << 20} {
		long := make([]api.Write, n)
		got, e := With(long, api.Write{Level: 1})
		if v, is := Find(long, 0, 0); May(long) || got != nil || e != writesetForm || v != 0 || is || At(long, 0) {
			t.Errorf("P10.1: %d writes: With told %v, %d", n, got, e)
		}
	}
}

// Every Value that a write may have, at each place; and those that it may not.
func TestValuesAtEachPlace(t *testing.T) {
	for n := 1; n <= maxInsts; n++ {
		for at := range n {
			w := row()[at]
			for value := range 256 {
				w.Value = value
				mayBe(t, with(row()[:n], at, w))
			}
			for _, value := range far {
				w.Value = value
				mayNotBe(t, with(row()[:n], at, w))
			}
		}
	}
}

// Each field is wrong alone, at each place: the write's other fields are those of the one that stood there.
func TestWrongWritesAtEachPlace(t *testing.T) {
	for n := 1; n <= maxInsts; n++ {
		for at := range n {
			old := row()[at]
			for _, x := range wrongPlaces() {
				mayNotBe(t, with(row()[:n], at, api.Write{Level: x, Index: old.Index, Value: old.Value}))
				mayNotBe(t, with(row()[:n], at, api.Write{Level: old.Level, Index: x, Value: old.Value}))
			}
			for _, bad := range badWrites() {
				mayNotBe(t, with(row()[:n], at, bad))
			}
		}
	}
}

// A level behind the last, or ahead of the first, would rise: it may not be all the same.
func TestRisingBeyondTheEnds(t *testing.T) {
	mayNotBe(t, []api.Write{{Level: -1}, {Level: 0}})
	mayNotBe(t, []api.Write{{Level: 3}, {Level: 4}})
	mayNotBe(t, []api.Write{{Level: 1, Index: -1}, {Level: 1, Index: 0}})
	mayNotBe(t, []api.Write{{Level: 1, Index: 3}, {Level: 1, Index: 4}})
	mayNotBe(t, []api.Write{{Level: 1, Index: 3}, {Level: 1, Index: 4}, {Level: 2}})
	mayNotBe(t, []api.Write{{Level: 0, Index: 0}, {Level: 0, Index: 1}, {Level: 0, Index: 2}, {Level: 0, Index: 3}, {Level: 0, Index: 4}})
}

// A wrong Value is told of w even where its word is there, and a wrong w where ws may not be either.
func TestWithOfWrongWrites(t *testing.T) {
	for n := range maxInsts + 1 {
		for _, bad := range badWrites() {
			withRefused(t, row()[:n], bad)
		}
		for _, w := range row() {
			for _, x := range far {
				withRefused(t, row()[:n], api.Write{Level: w.Level, Index: w.Index, Value: x})
			}
			for _, x := range wrongPlaces() {
				withRefused(t, row()[:n], api.Write{Level: x, Index: w.Index, Value: w.Value})
				withRefused(t, row()[:n], api.Write{Level: w.Level, Index: x, Value: w.Value})
			}
		}
	}
	for _, bad := range badWrites() {
		withRefused(t, []api.Write{bad}, bad)
		withRefused(t, []api.Write{{}, {}}, bad)
	}
}

// With does not mend writes that may not be, not even where w would take the wrong one's place.
func TestWithMendsNothing(t *testing.T) {
	for n := 1; n <= maxInsts; n++ {
		for at := range n {
			w := row()[at]
			wrong := w
			wrong.Value = 256
			withRefused(t, with(row()[:n], at, wrong), w)
			wrong.Value = -1
			withRefused(t, with(row()[:n], at, wrong), w)
			withRefused(t, slices.Insert(row()[:n], at, w), w)
		}
	}
}

// No word has these: nothing is found, at whatever level or index beside them, though their low bits, or their place in the row, would do.
func TestFindOfNoWord(t *testing.T) {
	for _, set := range []int{0, 1, 1 << 15, 0x0f0f, 0x5a5a, 0xffff} {
		ws := rowOf(set)
		for _, x := range wrongPlaces() {
			for n := range 4 {
				findIs(t, ws, x, n, 0, false)
				findIs(t, ws, n, x, 0, false)
			}
			for _, y := range wrongPlaces() {
				findIs(t, ws, x, y, 0, false)
			}
		}
	}
}

// A Value of 0 is found like any other.
func TestFindOfZero(t *testing.T) {
	for n := range 16 {
		w := writeAt(n)
		findIs(t, []api.Write{{Level: w.Level, Index: w.Index}}, w.Level, w.Index, 0, true)
		findIs(t, with(row(), n, api.Write{Level: w.Level, Index: w.Index}), w.Level, w.Index, 0, true)
	}
}

// Writes of one level, of each number, and then one of another level at its place: the first or the last.
func TestAtOneLevel(t *testing.T) {
	for level := range 4 {
		for set := 1; set < 16; set++ {
			ws := rowOf(set << (4 * level))
			for asked := range 4 {
				atIs(t, ws, asked, asked == level)
			}
			for _, x := range wrongPlaces() {
				atIs(t, ws, x, false)
			}
			for other := range 16 {
				if other/4 != level {
					atIs(t, rowOf(set<<(4*level)|1<<other), level, false)
					atIs(t, rowOf(set<<(4*level)|1<<other), other/4, false)
				}
			}
		}
	}
}

// Behind and ahead of writes of the level that is asked for stand ones of others, at each place of the row.
func TestAtOfOneOfAnother(t *testing.T) {
	for n := 2; n <= maxInsts; n++ {
		for first := range maxInsts + 1 - n {
			ws := row()[first : first+n]
			for level := range 4 {
				atIs(t, ws, level, first/4 == level && (first+n-1)/4 == level)
			}
		}
	}
}

// lists are some that may be and some that may not.
func lists() [][]api.Write {
	all := [][]api.Write{{{}, {}}, {{Level: 4}}, {{Level: 1}, {}}, make([]api.Write, 17), rowOf(0x00f0), rowOf(0x5a5a)}
	for n := range maxInsts + 1 {
		all = append(all, row()[:n])
	}
	return all
}

// roomy lays a list at the middle of a longer one of spare; whole is that.
func roomy(list []api.Write, spare api.Write) (part []api.Write, whole []api.Write) {
	whole = slices.Concat([]api.Write{spare}, list, []api.Write{spare, spare, spare, spare, spare})
	return whole[1 : 1+len(list)], whole
}

// How many there are counts, not how much room there is, and what lies there is no write.
func TestSpareRoomIsNoWrite(t *testing.T) {
	for n := range maxInsts {
		for _, spare := range []api.Write{writeAt(n), {Level: -1, Index: -1, Value: -1}} {
			part, _ := roomy(row()[:n], spare)
			mayBe(t, part)
			findIs(t, part, n/4, n%4, 0, false)
			withIs(t, part, writeAt(n), row()[:n+1])
		}
	}
	part, _ := roomy(rowOf(0x0060), writeAt(15))
	atIs(t, part, 1, true)
	findIs(t, part, 3, 3, 0, false)
}

func TestHandedInWritesStay(t *testing.T) {
	for _, list := range lists() {
		for _, w := range append(badWrites(), row()...) {
			part, whole := roomy(list, api.Write{Level: 77, Index: 78, Value: 79})
			old := slices.Clone(whole)
			May(part)
			With(part, w)
			Find(part, w.Level, w.Index)
			At(part, w.Level)
			if !slices.Equal(whole, old) {
				t.Fatalf("R4: %v became %v", old, whole)
			}
		}
	}
}

// scribble writes over a list and its spare room.
func scribble(ws []api.Write) {
	ws = ws[:cap(ws)]
	for at := range ws {
		ws[at] = api.Write{Level: 99, Index: 99, Value: 99}
	}
}

// Each answer is written over, its spare room too, where w went in and where it took another one's place; then what was handed in is.
func TestAnswersAreApart(t *testing.T) {
	for _, list := range [][]api.Write{nil, rowOf(1), rowOf(0x8001), rowOf(0x00f0), rowOf(0x5a5a), rowOf(0x7fff), rowOf(0xfffe), row()} {
		for _, w := range row() {
			part, whole := roomy(list, api.Write{Level: 77, Index: 78, Value: 79})
			old := slices.Clone(whole)
			first, _ := With(part, w)
			second, _ := With(part, w)
			want := slices.Clone(second)
			scribble(first)
			third, _ := With(part, w)
			if !slices.Equal(whole, old) || !slices.Equal(second, want) || !slices.Equal(third, want) {
				t.Fatalf("R4: behind writing over With(%v, %v): %v, %v, %v", list, w, whole, second, third)
			}
			scribble(whole)
			if !slices.Equal(second, want) {
				t.Fatalf("R4: behind writing over what was handed in: %v, want %v", second, want)
			}
		}
	}
}

// Several ask of the same writes at one time, and are told what one alone is told.
func TestAnswersHangOnArgumentsAlone(t *testing.T) {
	ws, _ := roomy(rowOf(0x5a5a), api.Write{Level: 77})
	var all sync.WaitGroup
	for range 8 {
		all.Go(func() {
			for range 50 {
				for n := range 16 {
					w := writeAt(n)
					withIs(t, ws, w, rowOf(0x5a5a|1<<n))
					if 0x5a5a>>n&1 == 1 {
						findIs(t, ws, w.Level, w.Index, w.Value, true)
					} else {
						findIs(t, ws, w.Level, w.Index, 0, false)
					}
					withRefused(t, ws, api.Write{Level: 4, Index: n})
				}
				mayBe(t, ws)
				atIs(t, ws, 1, false)
			}
		})
	}
	all.Wait()
}
