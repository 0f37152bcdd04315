package readset

import (
	"math"
	"slices"
	"sync"
	"testing"

	"veil/api"
)

type arenaWords = [4][]api.Word

// The limits are written out as numbers, so that they share no name with what they test.
const (
	maxInsts    = 16
	maxClock    = 65535
	maxId       = 254
	readsetForm = 900
)

// far are wrong in every field and as an id: negative ones, ones whose low bits would do, and the ends of the number kinds.
var far = []int{
	-1, -2, -3, -4, -5, -255, -256, -65535, -65536, 65536, 65537, 131071, 1 << 31, 1 << 32, 1<<32 + 1, 1 << 62,
	math.MaxInt32, math.MaxUint32, math.MaxInt - 1, math.MaxInt, math.MinInt32, math.MinInt, math.MinInt + 1,
}

func wrongPlaces() []int { return append([]int{4, 5, 6, 7, 8, 255, 256, 65535}, far...) }
func wrongIds() []int    { return append([]int{255, 256, 257, 510, 511, 65535}, far...) }

// badReads have one wrong field each, the others at their ends, and last some whose fields are all wrong.
func badReads() []api.Read {
	var all []api.Read
	for _, x := range wrongPlaces() {
		all = append(all, api.Read{Level: x}, api.Read{Level: x, Index: 3, Version: maxClock})
		all = append(all, api.Read{Index: x}, api.Read{Level: 3, Index: x, Version: maxClock})
	}
	for _, x := range far {
		all = append(all, api.Read{Version: x}, api.Read{Level: 3, Index: 3, Version: x}, api.Read{Level: x, Index: x, Version: x})
	}
	return all
}

// versionAt is another one for each word.
func versionAt(level int, index int) int { return 1000*level + 10*index + 5 }

func readAt(level int, index int) api.Read {
	return api.Read{Level: level, Index: index, Version: versionAt(level, index)}
}

// rows are the sixteen words, in several rows: no row of reads is asked for.
func rows() [][]api.Read {
	var rising, byIndex, mixed []api.Read
	for n := range 16 {
		rising = append(rising, readAt(n/4, n%4))
		byIndex = append(byIndex, readAt(n%4, n/4))
		mixed = append(mixed, readAt(n*5%16/4, n*5%16%4))
	}
	falling := slices.Clone(rising)
	slices.Reverse(falling)
	return [][]api.Read{rising, byIndex, mixed, falling}
}

// with is a new list, rs with r at that place.
func with(rs []api.Read, at int, r api.Read) []api.Read {
	rs = slices.Clone(rs)
	rs[at] = r
	return rs
}

// sized makes an arena of so many words a level, free ones, of the versions that readAt tells.
func sized(sizes [4]int) arenaWords {
	var ws arenaWords
	for level, n := range sizes {
		for index := range n {
			ws[level] = append(ws[level], api.Word{Value: 10*level + index, Version: versionAt(level, index)})
		}
	}
	return ws
}

func full() arenaWords { return sized([4]int{4, 4, 4, 4}) }

func cloned(ws arenaWords) arenaWords {
	for level := range ws {
		ws[level] = slices.Clone(ws[level])
	}
	return ws
}

// wordAt is a new arena, ws with w in the place of r's word.
func wordAt(ws arenaWords, r api.Read, w api.Word) arenaWords {
	ws = cloned(ws)
	ws[r.Level][r.Index] = w
	return ws
}

// lockedAt is a new arena, ws with r's word locked so.
func lockedAt(ws arenaWords, r api.Read, lock int) arenaWords {
	w := ws[r.Level][r.Index]
	w.Lock = lock
	return wordAt(ws, r, w)
}

// versionedAt is a new arena, ws with r's word of that Version.
func versionedAt(ws arenaWords, r api.Read, version int) arenaWords {
	w := ws[r.Level][r.Index]
	w.Version = version
	return wordAt(ws, r, w)
}

func mayBe(t *testing.T, rs []api.Read) {
	t.Helper()
	if !May(rs) {
		t.Errorf("P9.1: May(%v) is false", rs)
	}
}

// mayNotBe: With refuses such reads, too, whether r's word is among them or not; beside the error the list is nil.
func mayNotBe(t *testing.T, rs []api.Read) {
	t.Helper()
	if May(rs) {
		t.Errorf("P9.1: May(%v) is true", rs)
	}
	withRefused(t, rs, api.Read{})
	withRefused(t, rs, api.Read{Level: 3, Index: 3, Version: maxClock})
}

func withIs(t *testing.T, rs []api.Read, r api.Read, want []api.Read) {
	t.Helper()
	if got, e := With(rs, r); !slices.Equal(got, want) || e != api.OK {
		t.Errorf("P9.1: With(%v, %v) = %v, %d, want %v, 0", rs, r, got, e, want)
	}
}

func withRefused(t *testing.T, rs []api.Read, r api.Read) {
	t.Helper()
	if got, e := With(rs, r); got != nil || e != readsetForm {
		t.Errorf("P9.1: With(%v, %v) = %v, %d, want nil, 900", rs, r, got, e)
	}
}

func goodIs(t *testing.T, ws arenaWords, rs []api.Read, id int, want bool) {
	t.Helper()
	if got, e := Good(ws, rs, id); got != want || e != api.OK {
		t.Errorf("P9.2: Good(%v, %v, %d) = %v, %d, want %v, 0", ws, rs, id, got, e, want)
	}
}

func changedIs(t *testing.T, ws arenaWords, rs []api.Read, want bool) {
	t.Helper()
	if got, e := Changed(ws, rs); got != want || e != api.OK {
		t.Errorf("P9.2: Changed(%v, %v) = %v, %d, want %v, 0", ws, rs, got, e, want)
	}
}

func goodRefused(t *testing.T, ws arenaWords, rs []api.Read, id int) {
	t.Helper()
	if got, e := Good(ws, rs, id); got || e != readsetForm {
		t.Errorf("P9.2: Good(%v, %v, %d) = %v, %d, want false, 900", ws, rs, id, got, e)
	}
}

// bothRefused: what is wrong is in the words or in the reads, so Changed tells it as Good does, by whatever id.
func bothRefused(t *testing.T, ws arenaWords, rs []api.Read) {
	t.Helper()
	for _, id := range []int{0, 1, maxId, -1, maxId + 1} {
		goodRefused(t, ws, rs, id)
	}
	if got, e := Changed(ws, rs); got || e != readsetForm {
		t.Errorf("P9.2: Changed(%v, %v) = %v, %d, want false, 900", ws, rs, got, e)
	}
}

func TestLimits(t *testing.T) {
	if api.Levels != 4 || api.MaxWords != 4 || api.MaxInsts != maxInsts || api.MaxClock != maxClock || api.MaxId != maxId || api.ErrReadsetForm != readsetForm || api.OK != 0 {
		t.Fatal("the numbers of these tests are not those of package api")
	}
}

// These are written out whole, answers too.
func TestOrdinaryReads(t *testing.T) {
	one := []api.Read{{Level: 2, Index: 1, Version: 7}}
	two := []api.Read{{Level: 2, Index: 1, Version: 7}, {Level: 0, Index: 3, Version: 65535}}
	mayBe(t, one)
	mayBe(t, two)
	withIs(t, nil, api.Read{Level: 2, Index: 1, Version: 7}, one)
	withIs(t, one, api.Read{Level: 0, Index: 3, Version: 65535}, two)
	withIs(t, two, api.Read{Level: 2, Index: 1, Version: 7}, two)
	withIs(t, two, api.Read{Level: 2, Index: 1, Version: 9}, two)
	withIs(t, two, api.Read{Level: 1, Index: 2}, []api.Read{{Level: 2, Index: 1, Version: 7}, {Level: 0, Index: 3, Version: 65535}, {Level: 1, Index: 2}})
	mayNotBe(t, []api.Read{{Level: 2, Index: 1, Version: 7}, {Level: 2, Index: 1, Version: 7}})
	mayNotBe(t, []api.Read{{Level: 2, Index: 1, Version: 7}, {Level: 0}, {Level: 2, Index: 1, Version: 8}})
	mayNotBe(t, []api.Read{{Level: 4}})
	withRefused(t, one, api.Read{Index: 4})
	withRefused(t, one, api.Read{Version: 65536})
}

// An empty list and nil are one.
func TestNoRead(t *testing.T) {
	for _, none := range [][]api.Read{nil, {}, make([]api.Read, 0, 16), make([]api.Read, 3)[1:1]} {
		mayBe(t, none)
		for _, r := range rows()[0] {
			withIs(t, none, r, []api.Read{r})
		}
		for _, bad := range badReads() {
			withRefused(t, none, bad)
		}
	}
}

// Each number of reads, from none to all words that there can be, in several rows; r goes last, or rs stays as it is.
func TestEachNumberOfReads(t *testing.T) {
	for _, row := range rows() {
		for n := range maxInsts + 1 {
			mayBe(t, row[:n])
			for at, r := range row {
				for _, version := range []int{0, r.Version, r.Version + 1, maxClock} {
					asked := api.Read{Level: r.Level, Index: r.Index, Version: version}
					if at < n {
						withIs(t, row[:n], asked, row[:n])
					} else {
						withIs(t, row[:n], asked, append(slices.Clone(row[:n]), asked))
					}
				}
			}
		}
	}
}

// One by one all sixteen words are read, each of them twice.
func TestFromNoneToAll(t *testing.T) {
	for _, row := range rows() {
		var rs []api.Read
		for at, r := range row {
			for range 2 {
				next, e := With(rs, r)
				if !slices.Equal(next, row[:at+1]) || e != api.OK {
					t.Fatalf("P9.1: With(%v, %v) = %v, %d, want %v, 0", rs, r, next, e, row[:at+1])
				}
				rs = next
			}
		}
	}
}

// Lengths whose low bits would do are among them; more than sixteen are of one word twice, or of one that may not be.
func TestTooMany(t *testing.T) {
	for _, row := range rows() {
		for _, r := range row {
			mayNotBe(t, append(slices.Clone(row), r))
			mayNotBe(t, append([]api.Read{r}, row...))
			mayNotBe(t, append(slices.Clone(row), api.Read{Level: r.Level, Index: r.Index, Version: r.Version + 1}))
		}
		for _, bad := range badReads() {
			mayNotBe(t, append(slices.Clone(row), bad))
			withRefused(t, row, bad)
		}
	}
	for _, n := range []int{17, 18, 32, 255, 256, 257, 272, 65536, 65537, 65552, 1 << 20} {
		long := make([]api.Read, n)
		if got, e := With(long, api.Read{Level: 1}); May(long) || got != nil || e != readsetForm {
			t.Errorf("P9.1: %d reads: With told %v, %d", n, got, e)
		}
	}
}

// Two of one word stand at each two places of lists of each length, beside each other and apart, of one Version and of two.
func TestTwoOfOneWord(t *testing.T) {
	for _, row := range rows() {
		for n := 2; n <= maxInsts; n++ {
			for i := range n {
				for j := range n {
					if i == j {
						continue
					}
					twin := row[i]
					mayNotBe(t, with(row[:n], j, twin))
					twin.Version = row[j].Version
					mayNotBe(t, with(row[:n], j, twin))
					twin.Version = maxClock
					mayNotBe(t, with(row[:n], j, twin))
				}
			}
		}
	}
}

// One Level, or one Index, or one Version alone is no word twice.
func TestWordsThatAreAlikeInPart(t *testing.T) {
	mayBe(t, []api.Read{{Level: 1, Index: 0, Version: 5}, {Level: 1, Index: 1, Version: 5}})
	mayBe(t, []api.Read{{Level: 0, Index: 2, Version: 5}, {Level: 3, Index: 2, Version: 5}})
	mayBe(t, []api.Read{{Level: 1, Index: 2, Version: 5}, {Level: 2, Index: 1, Version: 5}})
	withIs(t, []api.Read{{Level: 1, Index: 2, Version: 5}}, api.Read{Level: 2, Index: 1, Version: 5}, []api.Read{{Level: 1, Index: 2, Version: 5}, {Level: 2, Index: 1, Version: 5}})
	withIs(t, []api.Read{{Level: 1, Index: 2, Version: 5}}, api.Read{Level: 1, Index: 3, Version: 5}, []api.Read{{Level: 1, Index: 2, Version: 5}, {Level: 1, Index: 3, Version: 5}})
	withIs(t, []api.Read{{Level: 1, Index: 2, Version: 5}}, api.Read{Level: 0, Index: 2, Version: 5}, []api.Read{{Level: 1, Index: 2, Version: 5}, {Level: 0, Index: 2, Version: 5}})
}

// Every Version at its edges goes with every word, at each place.
func TestVersionsAtEachPlace(t *testing.T) {
	row := rows()[2]
	for n := 1; n <= maxInsts; n++ {
		for at := range n {
			for _, version := range []int{0, 1, 255, 256, 32767, 32768, 65534, 65535} {
				r := api.Read{Level: row[at].Level, Index: row[at].Index, Version: version}
				mayBe(t, with(row[:n], at, r))
				if at == n-1 {
					withIs(t, row[:at], r, with(row[:n], at, r))
				}
			}
			for _, version := range far {
				mayNotBe(t, with(row[:n], at, api.Read{Level: row[at].Level, Index: row[at].Index, Version: version}))
			}
		}
	}
}

// Each field is wrong alone, at each place: the read's other fields are those of the word that stood there.
func TestWrongReadsAtEachPlace(t *testing.T) {
	for _, row := range rows()[:2] {
		for n := 1; n <= maxInsts; n++ {
			for at := range n {
				for _, x := range wrongPlaces() {
					mayNotBe(t, with(row[:n], at, api.Read{Level: x, Index: row[at].Index, Version: row[at].Version}))
					mayNotBe(t, with(row[:n], at, api.Read{Level: row[at].Level, Index: x, Version: row[at].Version}))
				}
				for _, bad := range badReads() {
					mayNotBe(t, with(row[:n], at, bad))
				}
			}
		}
	}
}

// A wrong Version is told of r even where its word is there, and rs would stay as it is.
func TestWithOfWrongReads(t *testing.T) {
	for _, row := range rows()[:2] {
		for n := range maxInsts + 1 {
			for _, bad := range badReads() {
				withRefused(t, row[:n], bad)
			}
			for _, r := range row {
				for _, version := range far {
					withRefused(t, row[:n], api.Read{Level: r.Level, Index: r.Index, Version: version})
				}
			}
		}
	}
	for _, bad := range badReads() {
		withRefused(t, []api.Read{bad}, bad)
		withRefused(t, []api.Read{{}, {}}, bad)
	}
}

// roomy lays a list at the middle of a longer one of spare; whole is that.
func roomy[T any](list []T, spare T) (part []T, whole []T) {
	whole = slices.Concat([]T{spare}, list, []T{spare, spare, spare, spare, spare})
	return whole[1 : 1+len(list)], whole
}

// How many there are counts, not how much room there is, and what lies there is no read.
func TestSpareRoomIsNoRead(t *testing.T) {
	for _, row := range rows() {
		for n := range maxInsts {
			for _, spare := range []api.Read{row[n], {Level: -1, Index: -1, Version: -1}} {
				part, _ := roomy(row[:n], spare)
				mayBe(t, part)
				withIs(t, part, row[n], row[:n+1])
				goodIs(t, full(), part, 0, true)
				changedIs(t, full(), part, false)
			}
		}
	}
}

func TestHandedInReadsStay(t *testing.T) {
	lists := [][]api.Read{{{}, {}}, {{Level: 4}}, make([]api.Read, 17)}
	for n := range maxInsts + 1 {
		lists = append(lists, rows()[2][:n])
	}
	for _, list := range lists {
		for _, r := range append(badReads(), rows()[0]...) {
			part, whole := roomy(list, api.Read{Level: 77, Index: 78, Version: 79})
			old := slices.Clone(whole)
			May(part)
			With(part, r)
			Good(full(), part, 3)
			Good(sized([4]int{1, 0, 0, 2}), part, -1)
			Changed(full(), part)
			Changed(arenaWords{}, part)
			if !slices.Equal(whole, old) {
				t.Fatalf("R4: %v became %v", old, whole)
			}
		}
	}
}

// scribble writes over a list and its spare room.
func scribble(rs []api.Read) {
	rs = rs[:cap(rs)]
	for at := range rs {
		rs[at] = api.Read{Level: 99, Index: 99, Version: 99}
	}
}

// Each answer is written over, its spare room too, where r went last and where rs stayed as it was; then what was handed in is.
func TestAnswersAreApart(t *testing.T) {
	row := rows()[2]
	for n := range maxInsts + 1 {
		for _, r := range row {
			part, whole := roomy(row[:n], api.Read{Level: 77, Index: 78, Version: 79})
			old := slices.Clone(whole)
			first, _ := With(part, r)
			second, _ := With(part, r)
			want := slices.Clone(second)
			scribble(first)
			third, _ := With(part, r)
			if !slices.Equal(whole, old) || !slices.Equal(second, want) || !slices.Equal(third, want) {
				t.Fatalf("R4: behind writing over With(%v, %v): %v, %v, %v", row[:n], r, whole, second, third)
			}
			scribble(whole)
			if !slices.Equal(second, want) {
				t.Fatalf("R4: behind writing over what was handed in: %v, want %v", second, want)
			}
		}
	}
}

// These are written out whole, answers too.
func TestOrdinaryWords(t *testing.T) {
	ws := arenaWords{{{Value: 5, Version: 2}, {Value: 6}}, nil, {{Value: 7, Version: 9, Lock: 4}}, nil}
	free := []api.Read{{Level: 0, Index: 0, Version: 2}, {Level: 0, Index: 1}}
	held := append(slices.Clone(free), api.Read{Level: 2, Index: 0, Version: 9})
	goodIs(t, ws, free, 0, true)
	goodIs(t, ws, held, 3, true)
	goodIs(t, ws, held, 4, false)
	goodIs(t, ws, held, 2, false)
	changedIs(t, ws, held, false)
	old := []api.Read{{Level: 0, Index: 1}, {Level: 0, Index: 0, Version: 1}}
	goodIs(t, ws, old, 3, false)
	changedIs(t, ws, old, true)
	bothRefused(t, ws, []api.Read{{Level: 1}})
	bothRefused(t, ws, []api.Read{{Level: 0, Index: 2}})
	bothRefused(t, ws, []api.Read{{Level: 0, Index: 1}, {Level: 2, Index: 1, Version: 9}})
	goodRefused(t, ws, free, 255)
	goodRefused(t, ws, free, -1)
}

// Of no read all is good and nothing is changed, whatever the words, locked ones too.
func TestNoReadOfWords(t *testing.T) {
	locked := full()
	for level := range locked {
		for index := range locked[level] {
			locked[level][index].Lock = 9
		}
	}
	for _, ws := range []arenaWords{{}, {{}, {}, {}, {}}, full(), locked, sized([4]int{0, 1, 0, 4})} {
		for _, none := range [][]api.Read{nil, {}, make([]api.Read, 0, 9)} {
			for _, id := range []int{0, 1, 8, 9, 127, 128, maxId - 1, maxId} {
				goodIs(t, ws, none, id, true)
			}
			changedIs(t, ws, none, false)
			for _, id := range wrongIds() {
				goodRefused(t, ws, none, id)
			}
		}
	}
}

// Words that were not read may be locked, or of any Version: only those of rs are asked.
func TestOtherWordsAreNotAsked(t *testing.T) {
	for _, row := range rows() {
		for n := range maxInsts {
			for _, other := range row[n:] {
				ws := wordAt(full(), other, api.Word{Value: 1, Version: 60001, Lock: 200})
				goodIs(t, ws, row[:n], 5, true)
				changedIs(t, ws, row[:n], false)
			}
		}
	}
}

func TestEachNumberOfReadsIsGood(t *testing.T) {
	for _, row := range rows() {
		for n := range maxInsts + 1 {
			for _, id := range []int{0, 1, 127, maxId} {
				goodIs(t, full(), row[:n], id, true)
			}
			changedIs(t, full(), row[:n], false)
		}
	}
}

// One word at each place is of another Version, a later one, an earlier one, one whose low bits are the same.
func TestOneOfAnotherVersion(t *testing.T) {
	for _, row := range rows() {
		for n := 1; n <= maxInsts; n++ {
			for at := range n {
				r := row[at]
				for _, version := range []int{r.Version - 1, r.Version + 1, r.Version + 256, 0, maxClock} {
					ws := versionedAt(full(), r, version)
					goodIs(t, ws, row[:n], 5, false)
					changedIs(t, ws, row[:n], true)
					mine := lockedAt(ws, r, 6)
					goodIs(t, mine, row[:n], 5, false)
					changedIs(t, mine, row[:n], true)
					rs := with(row[:n], at, api.Read{Level: r.Level, Index: r.Index, Version: version})
					goodIs(t, full(), rs, 5, false)
					changedIs(t, full(), rs, true)
					goodIs(t, ws, rs, 5, true)
					changedIs(t, ws, rs, false)
				}
			}
		}
	}
}

// Versions at both ends are held against each other like any other.
func TestVersionsAtTheirEnds(t *testing.T) {
	r := api.Read{Level: 3, Index: 3}
	for _, then := range []int{0, 1, 65534, 65535} {
		for _, now := range []int{0, 1, 65534, 65535} {
			r.Version = then
			ws := versionedAt(full(), r, now)
			goodIs(t, ws, []api.Read{r}, 0, then == now)
			changedIs(t, ws, []api.Read{r}, then != now)
		}
	}
}

func TestAllAreOfAnotherVersion(t *testing.T) {
	ws := full()
	for level := range ws {
		for index := range ws[level] {
			ws[level][index].Version++
		}
	}
	for n := 1; n <= maxInsts; n++ {
		goodIs(t, ws, rows()[2][:n], 5, false)
		changedIs(t, ws, rows()[2][:n], true)
	}
}

// One word at each place is locked: by nobody, by this id, by the ids beside it, by the first and the last id. No lock changes a word.
func TestLocksAtEachPlace(t *testing.T) {
	for _, row := range rows()[:3] {
		for n := 1; n <= maxInsts; n++ {
			for at := range n {
				for _, id := range []int{0, 1, 2, 127, 128, maxId - 1, maxId} {
					for _, lock := range []int{0, 1, 2, 254, 255, id, id + 1, min(id+2, 255)} {
						ws := lockedAt(full(), row[at], lock)
						goodIs(t, ws, row[:n], id, lock == 0 || lock == id+1)
						changedIs(t, ws, row[:n], false)
					}
				}
			}
		}
	}
}

// Every id meets every lock that a word may have.
func TestEveryIdAndEveryLock(t *testing.T) {
	r := readAt(2, 1)
	for lock := range 256 {
		ws := lockedAt(full(), r, lock)
		for id := range 255 {
			goodIs(t, ws, []api.Read{r}, id, lock == 0 || lock == id+1)
		}
		changedIs(t, ws, []api.Read{r}, false)
	}
}

// Two words are locked by two: neither of these, nor any other, finds both good.
func TestLocksOfTwo(t *testing.T) {
	one, other := readAt(0, 0), readAt(3, 3)
	ws := lockedAt(lockedAt(full(), one, 7), other, 9)
	for _, id := range []int{0, 6, 7, 8, 9, maxId} {
		goodIs(t, ws, []api.Read{one, other}, id, false)
		goodIs(t, ws, []api.Read{one}, id, id == 6)
		goodIs(t, ws, []api.Read{other}, id, id == 8)
		goodIs(t, lockedAt(ws, other, 7), []api.Read{other, one}, id, id == 6)
	}
	changedIs(t, ws, []api.Read{one, other}, false)
}

// A wrong id is refused whether all would be good or not; Changed takes none.
func TestWrongIds(t *testing.T) {
	for _, row := range rows() {
		for _, n := range []int{0, 1, 2, 15, 16} {
			for _, id := range wrongIds() {
				goodRefused(t, full(), row[:n], id)
				goodRefused(t, versionedAt(full(), row[0], 9), row[:n], id)
				goodRefused(t, lockedAt(full(), row[0], 255), row[:n], id)
			}
			goodIs(t, full(), row[:n], 0, true)
			goodIs(t, full(), row[:n], maxId, true)
		}
	}
}

// badWords have one field beyond an end of its own.
var badWords = []api.Word{
	{Value: -1}, {Value: 256}, {Version: -1}, {Version: 65536}, {Lock: -1}, {Lock: 256},
	{Value: math.MinInt}, {Version: 1 << 32}, {Lock: math.MaxInt}, {Value: -1, Version: -1, Lock: -1},
}

// A wrong word is told at each place, read or not, of no read too.
func TestWordsThatMayNotBe(t *testing.T) {
	for _, row := range rows()[:2] {
		for _, place := range row {
			for _, bad := range badWords {
				ws := wordAt(full(), place, bad)
				for _, n := range []int{0, 1, 8, 16} {
					bothRefused(t, ws, row[:n])
				}
				bothRefused(t, ws, []api.Read{place})
				bothRefused(t, ws, []api.Read{{}, {}})
			}
		}
	}
}

func TestTooManyWords(t *testing.T) {
	for level := range 4 {
		for _, n := range []int{5, 6, 8, 255, 256, 1 << 12} {
			ws := full()
			ws[level] = make([]api.Word, n)
			bothRefused(t, ws, nil)
			bothRefused(t, ws, []api.Read{readAt((level+1)%4, 0)})
			bothRefused(t, ws, []api.Read{{Level: level}})
			bothRefused(t, ws, []api.Read{{Level: level, Index: 4}})
		}
	}
}

// Reads that may not be are told at each place, in a full arena, in one where a word is not there, and in one that may not be.
func TestReadsThatMayNotBe(t *testing.T) {
	row := rows()[1]
	wrong := wordAt(full(), row[0], badWords[0])
	for n := 1; n <= maxInsts; n++ {
		for at := range n {
			for _, bad := range badReads() {
				rs := with(row[:n], at, bad)
				bothRefused(t, full(), rs)
				bothRefused(t, arenaWords{}, rs)
				bothRefused(t, wrong, rs)
			}
			if at > 0 {
				bothRefused(t, full(), with(row[:n], at, row[0]))
				bothRefused(t, versionedAt(full(), row[0], 9), with(row[:n], at, row[0]))
			}
		}
	}
	bothRefused(t, full(), append(slices.Clone(row), row[3]))
	bothRefused(t, full(), make([]api.Read, 17))
	bothRefused(t, full(), make([]api.Read, 1<<16))
}

// Arenas of every size meet a read of every word, alone: it is there, or at the list's end, or beyond it.
func TestWordsThatAreNotThere(t *testing.T) {
	for n := range 625 {
		sizes := [4]int{n % 5, n / 5 % 5, n / 25 % 5, n / 125}
		ws := sized(sizes)
		for _, r := range rows()[0] {
			if r.Index < sizes[r.Level] {
				goodIs(t, ws, []api.Read{r}, 4, true)
				changedIs(t, ws, []api.Read{r}, false)
			} else {
				bothRefused(t, ws, []api.Read{r})
			}
		}
	}
}

// One word that is not there is told at each place, ahead of a word of another Version and behind it.
func TestOneWordIsNotThere(t *testing.T) {
	for _, row := range rows() {
		for n := 1; n <= maxInsts; n++ {
			for at := range n {
				gone := row[at]
				ws := full()
				ws[gone.Level] = ws[gone.Level][:gone.Index]
				bothRefused(t, ws, row[:n])
				for level := range ws {
					for index := range ws[level] {
						ws[level][index].Version = maxClock
					}
				}
				bothRefused(t, ws, row[:n])
			}
		}
	}
}

// A word that lies in an arena's spare room is not there.
func TestSpareRoomIsNoWord(t *testing.T) {
	for level := range 4 {
		for n := range 4 {
			ws := full()
			ws[level] = ws[level][:n]
			bothRefused(t, ws, []api.Read{readAt(level, n)})
			if n > 0 {
				goodIs(t, ws, []api.Read{readAt(level, n-1)}, 0, true)
			}
		}
	}
}

func TestHandedInWordsStay(t *testing.T) {
	row := rows()[2]
	for _, ws := range []arenaWords{full(), sized([4]int{1, 2, 3, 0}), wordAt(full(), row[3], badWords[1]), lockedAt(full(), row[0], 8), versionedAt(full(), row[5], 9)} {
		var parts, wholes, olds arenaWords
		for level := range ws {
			parts[level], wholes[level] = roomy(ws[level], api.Word{Value: 77, Version: 78, Lock: 79})
			olds[level] = slices.Clone(wholes[level])
		}
		for n := range maxInsts + 1 {
			for _, id := range []int{-1, 0, 7, maxId, maxId + 1} {
				Good(parts, row[:n], id)
				Changed(parts, row[:n])
			}
		}
		for level := range wholes {
			if !slices.Equal(wholes[level], olds[level]) || len(parts[level]) != len(ws[level]) {
				t.Errorf("R4: %v became %v", olds, wholes)
			}
		}
	}
}

// The same calls answer the same again, behind calls that are refused, and from several goroutines at one time.
func TestAnswersHangOnArgumentsAlone(t *testing.T) {
	row := rows()[2]
	ws := lockedAt(full(), row[4], 8)
	later := versionedAt(full(), row[2], 9)
	var all sync.WaitGroup
	for range 8 {
		all.Add(1)
		go func() {
			defer all.Done()
			for range 100 {
				mayBe(t, row)
				mayNotBe(t, []api.Read{row[0], row[0]})
				withIs(t, row[:5], row[5], row[:6])
				withIs(t, row[:5], row[4], row[:5])
				withRefused(t, row[:5], api.Read{Index: 4})
				goodIs(t, ws, row, 7, true)
				goodIs(t, ws, row, 6, false)
				goodRefused(t, ws, row, 255)
				changedIs(t, ws, row, false)
				changedIs(t, later, row, true)
				bothRefused(t, arenaWords{}, row)
			}
		}()
	}
	all.Wait()
}
