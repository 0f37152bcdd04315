package prog

import (
	"math"
	"slices"
	"strings"
	"sync"
	"testing"

	"veil/api"
)

// The limits are written out as numbers, so that they share no name with what they test.
const (
	maxInsts = 16
	zero     = 4
	progForm = 800
)

// goodInsts may be at every place of every program: each Code but CodeZero, at its edges and within them.
var goodInsts = []api.Inst{
	{}, {Code: 0, A: 3, B: 255}, {Code: 0, A: 2, B: 128},
	{Code: 1}, {Code: 1, A: 3, B: 3}, {Code: 1, A: 1, B: 2},
	{Code: 2}, {Code: 2, A: 3, B: 3, C: 3}, {Code: 2, A: 1, B: 2, C: 3},
	{Code: 3}, {Code: 3, A: 3, B: 3, C: 3}, {Code: 3, A: 2, B: 0, C: 1},
	{Code: 5},
	{Code: 6}, {Code: 6, A: 255}, {Code: 6, A: 0xc3},
}

// badInsts may be nowhere, whatever their place.
var badInsts = []api.Inst{
	{A: 4}, {A: -1}, {B: 256}, {B: -1}, {C: 1}, {C: -1},
	{Code: 1, A: 4}, {Code: 1, A: -1}, {Code: 1, B: 4}, {Code: 1, B: -1}, {Code: 1, C: 1},
	{Code: 2, A: 4}, {Code: 2, A: -1}, {Code: 2, B: 4}, {Code: 2, B: -1}, {Code: 2, C: 4}, {Code: 2, C: -1},
	{Code: 3, A: 4}, {Code: 3, A: -1}, {Code: 3, B: 4}, {Code: 3, B: -1}, {Code: 3, C: 4}, {Code: 3, C: -1},
	{Code: 4, A: 4, B: 16}, {Code: 4, A: -1, B: 16}, {Code: 4, B: 17}, {Code: 4, B: 16, C: 1},
	{Code: 5, A: 1}, {Code: 5, B: 1}, {Code: 5, C: 1}, {Code: 5, A: -1},
	{Code: 6, A: 256}, {Code: 6, A: -1}, {Code: 6, B: 1}, {Code: 6, C: 1},
	{Code: -1}, {Code: 7}, {Code: 8}, {Code: 255}, {Code: 256}, {Code: 261},
	{Code: 1 << 32}, {Code: 1<<32 + 5}, {Code: math.MaxInt}, {Code: math.MinInt}, {A: 1 << 32}, {B: math.MinInt}, {Code: 2, C: math.MaxInt},
}

// farB are no B of CodeZero's, wherever it is: negative ones, ones whose low bits would do, and the ends of the number kinds.
var farB = []int{
	-1, -2, -16, -17, -128, -255, -256, 17, 18, 32, 127, 128, 255, 256, 257, 272, 65536, 65537, 65552,
	1 << 31, 1<<32 + 1, 1<<32 + 16, 1 << 62, math.MaxInt32, math.MaxInt, math.MinInt32, math.MinInt, math.MinInt + 16,
}

// told is the text of instructions whose numbers fit in one byte each, with that first byte.
func told(first int, p []api.Inst) string {
	text := []byte{byte(first)}
	for _, i := range p {
		text = append(text, byte(i.Code), byte(i.A), byte(i.B), byte(i.C))
	}
	return string(text)
}

// fitsBytes: does each number fit in one byte, so that told drops no bit of it?
func fitsBytes(i api.Inst) bool {
	for _, n := range []int{i.Code, i.A, i.B, i.C} {
		if n < 0 || n > 255 {
			return false
		}
	}
	return true
}

// many is a program of n instructions, of all kinds but CodeZero, that begins at another kind for each from.
func many(n int, from int) []api.Inst {
	p := make([]api.Inst, n)
	for at := range p {
		p[at] = goodInsts[(from+at)%len(goodInsts)]
	}
	return p
}

// with is a new program, p with i at that place.
func with(p []api.Inst, at int, i api.Inst) []api.Inst {
	p = slices.Clone(p)
	p[at] = i
	return p
}

func mayBe(t *testing.T, p []api.Inst, text string) {
	t.Helper()
	if !May(p) {
		t.Errorf("P8.1: May(%v) = false", p)
	}
	if got, e := Put(p); got != text || e != api.OK {
		t.Errorf("P8.1: Put(%v) = %q, %d, want %q, 0", p, got, e, text)
	}
	if got, e := Get(text); !slices.Equal(got, p) || e != api.OK {
		t.Errorf("P8.1: Get(%q) = %v, %d, want %v, 0", text, got, e, p)
	}
}

// Beside the error the text is empty. The text that Put would make of it, if it did not ask, is refused by Get, too.
func mayNotBe(t *testing.T, p []api.Inst) {
	t.Helper()
	if May(p) {
		t.Errorf("P8.1: May(%v) = true", p)
	}
	if got, e := Put(p); got != "" || e != progForm {
		t.Errorf("P8.1: Put(%v) = %q, %d, want \"\", 800", p, got, e)
	}
	if len(p) < 256 && !slices.ContainsFunc(p, func(i api.Inst) bool { return !fitsBytes(i) }) {
		getRefused(t, told(len(p), p))
	}
}

// Beside the error there is no list.
func getRefused(t *testing.T, text string) {
	t.Helper()
	if got, e := Get(text); len(got) != 0 || e != progForm {
		t.Errorf("P8.1: Get(%q) = %v, %d, want none, 800", text, got, e)
	}
	if got, _ := Get(text); got != nil {
		t.Errorf("R2: Get(%q) = %v, want the zero value", text, got)
	}
}

func TestLimits(t *testing.T) {
	if api.MaxInsts != maxInsts || api.CodeZero != zero || api.ErrProgForm != progForm || api.OK != 0 {
		t.Fatal("the limits of these tests are not those of package api")
	}
}

// These are written out whole, texts too.
func TestOrdinary(t *testing.T) {
	mayBe(t, []api.Inst{{Code: 5}}, "\x01\x05\x00\x00\x00")
	mayBe(t, []api.Inst{{Code: 0, A: 2, B: 200}, {Code: 1, A: 1, B: 2}}, "\x02\x00\x02\xc8\x00\x01\x01\x02\x00")
	mayBe(t, []api.Inst{{Code: 2, A: 1, B: 2, C: 3}, {Code: 4, A: 1, B: 3}, {Code: 5}, {Code: 3, A: 1, B: 2, C: 0}},
		"\x04\x02\x01\x02\x03\x04\x01\x03\x00\x05\x00\x00\x00\x03\x01\x02\x00")
	mayBe(t, []api.Inst{{Code: 4, A: 3, B: 1}}, "\x01\x04\x03\x01\x00")
	mayBe(t, []api.Inst{{Code: 4, B: 2}, {Code: 6, A: 255}}, "\x02\x04\x00\x02\x00\x06\xff\x00\x00")
	mayBe(t, []api.Inst{{}}, "\x01\x00\x00\x00\x00")
}

func TestOrdinaryWrongOnes(t *testing.T) {
	mayNotBe(t, []api.Inst{{Code: 4}})
	mayNotBe(t, []api.Inst{{Code: 4, B: 2}})
	mayNotBe(t, []api.Inst{{Code: 5}, {Code: 4, B: 1}})
	mayNotBe(t, []api.Inst{{Code: 5}, {Code: 4, B: 0}, {Code: 5}})
	mayNotBe(t, []api.Inst{{Code: 4, B: 4}, {Code: 5}, {Code: 5}})
	mayNotBe(t, []api.Inst{{Code: 5}, {Code: 5, A: 1}})
	mayNotBe(t, []api.Inst{{Code: 7}})
}

// An empty list and nil are one.
func TestNoInstruction(t *testing.T) {
	mayBe(t, nil, "\x00")
	mayBe(t, []api.Inst{}, "\x00")
	mayBe(t, make([]api.Inst, 0, 16), "\x00")
	if got, e := Get("\x00"); len(got) != 0 || e != api.OK {
		t.Errorf("P8.1: Get(\"\\x00\") = %v, %d, want none, 0", got, e)
	}
}

func TestEachNumberOfInstructions(t *testing.T) {
	for n := range maxInsts + 1 {
		for from := range goodInsts {
			p := many(n, from)
			mayBe(t, p, told(n, p))
		}
		for _, i := range goodInsts {
			p := slices.Repeat([]api.Inst{i}, n)
			mayBe(t, p, told(n, p))
		}
	}
}

// The length of Put's text is one byte and four an instruction.
func TestHowLongTextsAre(t *testing.T) {
	for n := range maxInsts + 1 {
		if text, e := Put(many(n, n)); len(text) != 1+4*n || e != api.OK {
			t.Errorf("P8.1: Put of %d instructions: %d bytes, %d", n, len(text), e)
		}
	}
}

// Numbers whose low bits would do are among them.
func TestTooMany(t *testing.T) {
	for n := maxInsts + 1; n <= 300; n++ {
		mayNotBe(t, many(n, n))
		mayNotBe(t, slices.Repeat([]api.Inst{{Code: 5}}, n))
	}
	for _, n := range []int{512, 1024, 65535, 65536, 65537, 65552, 1 << 20} {
		mayNotBe(t, slices.Repeat([]api.Inst{{Code: 5}}, n))
	}
	mayNotBe(t, make([]api.Inst, 17))
	mayNotBe(t, slices.Repeat([]api.Inst{{Code: 4, B: 16}}, 17))
	mayNotBe(t, slices.Repeat([]api.Inst{{Code: 7}}, 17))
}

// How many there are counts, not how much room there is.
func TestSpareRoomDoesNotCount(t *testing.T) {
	p := many(100, 0)
	for n := range maxInsts + 1 {
		mayBe(t, p[:n], told(n, p[:n]))
	}
	p[3] = api.Inst{Code: 7}
	mayBe(t, p[:3], told(3, p[:3]))
	p[3] = api.Inst{Code: 4, B: 4}
	mayBe(t, p[:4], told(4, p[:4]))
	p[3].B = 5
	mayNotBe(t, p[:4])
	mayBe(t, p[:5], told(5, p[:5]))
}

func TestAnInstructionThatMayNotBeAtEachPlace(t *testing.T) {
	for n := 1; n <= maxInsts; n++ {
		for at := range n {
			for _, bad := range badInsts {
				mayNotBe(t, with(many(n, at), at, bad))
			}
		}
	}
}

func TestAllIsWrong(t *testing.T) {
	for n := 1; n <= maxInsts+1; n++ {
		for _, bad := range badInsts {
			mayNotBe(t, slices.Repeat([]api.Inst{bad}, n))
		}
	}
}

// CodeZero stands alone at each place of programs of each length, with every B that an instruction may have, and some beyond.
func TestZeroAtEachPlace(t *testing.T) {
	asked := 0
	for n := 1; n <= maxInsts; n++ {
		for at := range n {
			for b := -1; b <= maxInsts+2; b++ {
				for a := range 4 {
					asked++
					p := with(many(n, at), at, api.Inst{Code: zero, A: a, B: b})
					if b > at && b <= n {
						mayBe(t, p, told(n, p))
					} else {
						mayNotBe(t, p)
					}
				}
			}
		}
	}
	if want := 136 * 20 * 4; asked != want {
		t.Fatalf("%d programs were asked, want %d", asked, want)
	}
}

func TestZeroWithAFarB(t *testing.T) {
	for n := 1; n <= maxInsts; n++ {
		for at := range n {
			for _, b := range farB {
				mayNotBe(t, with(many(n, at), at, api.Inst{Code: zero, B: b}))
			}
		}
	}
}

// Nothing but CodeZero says where to go on: what others name B is no place.
func TestOnlyZeroGoesSomewhere(t *testing.T) {
	for code := range 4 {
		p := slices.Repeat([]api.Inst{{Code: code, A: 1}}, 16)
		for b := range 4 {
			for at := range p {
				p[at].B = b
			}
			mayBe(t, p, told(16, p))
			mayBe(t, p[:1], told(1, p[:1]))
		}
	}
	mayBe(t, []api.Inst{{Code: 0, B: 255}, {Code: 0, B: 0}}, "\x02\x00\x00\xff\x00\x00\x00\x00\x00")
}

// Programs of CodeZero alone: each to the next place, each to the end; then one of them goes wrong, at each place.
func TestManyZeros(t *testing.T) {
	for n := 1; n <= maxInsts; n++ {
		next, last := make([]api.Inst, n), make([]api.Inst, n)
		for at := range n {
			next[at] = api.Inst{Code: zero, A: at % 4, B: at + 1}
			last[at] = api.Inst{Code: zero, A: at % 4, B: n}
		}
		mayBe(t, next, told(n, next))
		mayBe(t, last, told(n, last))
		for at := range n {
			for _, b := range []int{0, at - 1, at, n + 1, -n} {
				if b > at && b <= n {
					continue
				}
				mayNotBe(t, with(next, at, api.Inst{Code: zero, B: b}))
				mayNotBe(t, with(last, at, api.Inst{Code: zero, B: b}))
			}
		}
	}
}

// Two faults beside each other are one error still.
func TestTwoFaults(t *testing.T) {
	for at := range maxInsts {
		for other := range maxInsts {
			p := with(many(16, at), at, api.Inst{Code: zero, B: at})
			mayNotBe(t, with(p, other, api.Inst{Code: 7}))
			mayNotBe(t, append(p, api.Inst{Code: 5}))
		}
	}
}

// Each first byte stands ahead of each number of good instructions: just one of them fits.
func TestEveryFirstByte(t *testing.T) {
	for n := range maxInsts + 1 {
		p := many(n, n)
		for first := range 256 {
			if first == n {
				mayBe(t, p, told(first, p))
			} else {
				getRefused(t, told(first, p))
			}
		}
	}
}

// Beyond MaxInsts no first byte will do, the one that tells how many follow neither.
func TestTextsOfTooMany(t *testing.T) {
	for n := maxInsts + 1; n <= 520; n++ {
		p := slices.Repeat([]api.Inst{{Code: 5}}, n)
		for _, first := range []int{n, 16, 0, 1, 17, 128, 255} {
			getRefused(t, told(first, p))
		}
	}
	for first := maxInsts + 1; first < 256; first++ {
		getRefused(t, told(first, make([]api.Inst, first)))
	}
	getRefused(t, strings.Repeat("\x00", 1<<20))
	getRefused(t, strings.Repeat("\xff", 1<<16+1))
}

// Every other length is refused, whatever is cut or laid on, at either end.
func TestWrongLengths(t *testing.T) {
	getRefused(t, "")
	for n := range maxInsts + 1 {
		text := told(n, many(n, n))
		for cut := range text {
			getRefused(t, text[:cut])
		}
		for _, more := range []string{"\x00", "\x05", "\xff", "\x00\x00", "\x00\x00\x00", "\x00\x00\x00\x00", "\x05\x00\x00\x00", "\x01\x05\x00\x00\x00", text} {
			getRefused(t, text+more)
		}
	}
	for n := range 70 {
		if n != 0 {
			getRefused(t, strings.Repeat("\x00", n+1))
		}
		getRefused(t, strings.Repeat("\x80", n))
		getRefused(t, strings.Repeat("\xff", n))
	}
}

// Texts are bytes, not runes.
func TestTextsOfGreatBytes(t *testing.T) {
	for first := 128; first < 256; first++ {
		getRefused(t, told(first, nil))
		getRefused(t, told(first, make([]api.Inst, first-128)))
		getRefused(t, told(first, make([]api.Inst, first)))
		getRefused(t, told(first, make([]api.Inst, 256-first)))
	}
	getRefused(t, "\x01\x00\x00\u00c8\x00")
	getRefused(t, "\u0081\x05\x00\x00\x00")
	getRefused(t, "1\x05\x00\x00\x00")
	getRefused(t, "0")
	mayBe(t, []api.Inst{{Code: 0, B: 0xc3}, {Code: 6, A: 0xff}}, "\x02\x00\x00\xc3\x00\x06\xff\x00\x00")
}

// Every byte goes into every place of a text; Get answers a program just if Put tells that text of it.
func TestEveryByteInEveryPlace(t *testing.T) {
	p := []api.Inst{{Code: 4, A: 1, B: 3}, {Code: 0, A: 2, B: 4}, {Code: 2, A: 1, B: 2, C: 3}, {Code: 4, A: 0, B: 5}, {Code: 5}, {Code: 6, A: 9}}
	text := told(6, p)
	mayBe(t, p, text)
	taken := 0
	for place := range len(text) {
		for n := range 256 {
			b := []byte(text)
			b[place] = byte(n)
			got, e := Get(string(b))
			if e == api.OK {
				taken++
				mayBe(t, got, string(b))
			} else {
				getRefused(t, string(b))
			}
		}
	}
	// Instruction by instruction, which bytes will do: of the Code, of A, of B, of C; the first byte has one.
	codes := [6]int{5, 2, 2, 2, 6, 1}
	as := [6]int{4, 4, 4, 4, 1, 256}
	bs := [6]int{6, 256, 4, 3, 1, 1}
	cs := [6]int{1, 1, 4, 1, 1, 1}
	want := 1
	for at := range 6 {
		want += codes[at] + as[at] + bs[at] + cs[at]
	}
	if taken != want {
		t.Errorf("P8.1: of the texts that are one byte off %q, %d are a program's, want %d", text, taken, want)
	}
}

func TestTextsOfInstructionsThatMayNotBe(t *testing.T) {
	for n := 1; n <= maxInsts; n++ {
		for at := range n {
			for _, wrong := range []string{"\x00\x04\x00\x00", "\x00\x00\x00\x01", "\x01\x00\x04\x00", "\x02\x00\x04\x00", "\x03\x00\x00\x04", "\x04\x00\x11\x00", "\x04\x00\x00\x00", "\x05\x01\x00\x00", "\x06\x00\x01\x00", "\x07\x00\x00\x00", "\x80\x00\x00\x00", "\xff\xff\xff\xff", "\x85\x00\x00\x00"} {
				text := told(n, many(n, at))
				getRefused(t, text[:1+4*at]+wrong+text[5+4*at:])
			}
		}
	}
}

// What is handed in is as it was, its spare room too, whether it may be or not.
func TestHandedInStays(t *testing.T) {
	for n := range 20 {
		for _, first := range []api.Inst{{Code: 5}, {Code: 4, B: 1}, {Code: 4, B: 0}, {Code: 7}} {
			room := many(30, n)
			room[0] = first
			before := slices.Clone(room)
			May(room[:n])
			Put(room[:n])
			May(room[:n:n])
			Put(room[:n:n])
			if !slices.Equal(room, before) {
				t.Fatalf("R4: %d instructions, the first %v: turned to %v", n, first, room)
			}
		}
	}
}

// Writing over an answer, and over its spare room, turns no other answer; writing over what was handed in turns no answer.
func TestAnswersAreApart(t *testing.T) {
	for n := range maxInsts + 1 {
		p := many(n, n)
		text, _ := Put(p)
		one, _ := Get(text)
		other, _ := Get(text)
		room := one[:cap(one)]
		for at := range room {
			room[at] = api.Inst{Code: 99, A: 99, B: 99, C: 99}
		}
		third, _ := Get(text)
		if !slices.Equal(other, p) || !slices.Equal(third, p) {
			t.Fatalf("R4: of %q: %v and %v, behind writing over the first answer", text, other, third)
		}
		for at := range p {
			p[at] = api.Inst{Code: 98}
		}
		if text != told(n, other) {
			t.Fatalf("R4: Put's text turned to %q, behind writing over what was put", text)
		}
	}
}

// The same calls answer the same again, behind calls that are refused, and from several goroutines at one time.
func TestAnswersHangOnArgumentsAlone(t *testing.T) {
	p := many(16, 5)
	text := told(16, p)
	var all sync.WaitGroup
	for range 8 {
		all.Add(1)
		go func() {
			defer all.Done()
			for range 100 {
				mayBe(t, p, text)
				mayNotBe(t, []api.Inst{{Code: 5}, {Code: 4, B: 1}})
				mayBe(t, p[:3], told(3, p[:3]))
				getRefused(t, text[:64])
				mayBe(t, nil, "\x00")
			}
		}()
	}
	all.Wait()
}
