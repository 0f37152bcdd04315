package inst

import (
	"math"
	"strings"
	"sync"
	"testing"

	"veil/api"
)

// most are the greatest A, B and C of each Code, written out as numbers, so that they share no name with what they test; 0 stands where the Code does not name it, and where 0 alone may be.
var most = [7][3]int{
	{3, 255, 0},
	{3, 3, 0},
	{3, 3, 3},
	{3, 3, 3},
	{3, 16, 0},
	{0, 0, 0},
	{255, 0, 0},
}

// far are wrong as a Code and as anything that one names: negative ones, ones whose low bits would do, and the ends of the number kinds.
var far = []int{
	-1, -2, -3, -4, -5, -6, -7, -16, -128, -254, -255, -256, -257, -512, 256, 257, 258, 259, 260, 261, 262, 511, 512, 65535, 65536,
	1 << 31, 1 << 32, 1<<32 + 1, 1<<32 + 2, 1<<32 + 5, 1 << 62, 1<<62 + 3,
	math.MaxInt32, math.MaxUint32, math.MaxInt - 1, math.MaxInt, math.MinInt32, math.MinInt, math.MinInt + 1, math.MinInt + 5,
}

// near are at the edges of one Code or another.
var near = []int{0, 1, 2, 3, 4, 5, 6, 7, 8, 15, 16, 17, 18, 31, 32, 127, 128, 129, 253, 254, 255}

// told is the text of an instruction whose numbers fit in one byte each.
func told(code int, a int, b int, c int) string {
	return string([]byte{byte(code), byte(a), byte(b), byte(c)})
}

// with is i with n for its A, B or C (0, 1, 2).
func with(i api.Inst, field int, n int) api.Inst {
	*[]*int{&i.A, &i.B, &i.C}[field] = n
	return i
}

// within is asked by comparing with the table alone.
func within(code int, a int, b int, c int) bool {
	return code >= 0 && code <= 6 && a >= 0 && b >= 0 && c >= 0 && a <= most[code][0] && b <= most[code][1] && c <= most[code][2]
}

// everyGood goes through every instruction that may be.
func everyGood(do func(api.Inst)) {
	for code, ends := range most {
		for a := range ends[0] + 1 {
			for b := range ends[1] + 1 {
				for c := range ends[2] + 1 {
					do(api.Inst{Code: code, A: a, B: b, C: c})
				}
			}
		}
	}
}

func mayBe(t *testing.T, i api.Inst, text string) {
	t.Helper()
	if !May(i) {
		t.Errorf("P7.1: May(%v) = false", i)
	}
	if got, e := Put(i); got != text || e != api.OK {
		t.Errorf("P7.1: Put(%v) = %q, %d, want %q, 0", i, got, e, text)
	}
	if got, e := Get(text); got != i || e != api.OK {
		t.Errorf("P7.1: Get(%q) = %v, %d, want %v, 0", text, got, e, i)
	}
}

// Beside the error the text is empty.
func mayNotBe(t *testing.T, i api.Inst) {
	t.Helper()
	if May(i) {
		t.Errorf("P7.1: May(%v) = true", i)
	}
	if got, e := Put(i); got != "" || e != api.ErrInstForm {
		t.Errorf("P7.1: Put(%v) = %q, %d, want \"\", 700", i, got, e)
	}
}

// Beside the error the instruction is zero.
func getRefused(t *testing.T, text string) {
	t.Helper()
	if got, e := Get(text); got != (api.Inst{}) || e != api.ErrInstForm {
		t.Errorf("P7.1: Get(%q) = %v, %d, want a zero one, 700", text, got, e)
	}
}

func TestLimits(t *testing.T) {
	if api.Registers != 4 || api.MaxValue != 255 || api.Levels != 4 || api.MaxWords != 4 || api.MaxInsts != 16 || api.ErrInstForm != 700 {
		t.Fatal("the limits of these tests are not those of package api")
	}
	codes := [7]int{api.CodeSet, api.CodeAdd, api.CodeRead, api.CodeWrite, api.CodeZero, api.CodeRetry, api.CodeAbort}
	if codes != [7]int{0, 1, 2, 3, 4, 5, 6} {
		t.Fatal("the codes of these tests are not those of package api")
	}
}

// These are written out whole, texts too.
func TestOrdinary(t *testing.T) {
	mayBe(t, api.Inst{}, "\x00\x00\x00\x00")
	mayBe(t, api.Inst{Code: 0, A: 2, B: 200}, "\x00\x02\xc8\x00")
	mayBe(t, api.Inst{Code: 0, A: 3, B: 255}, "\x00\x03\xff\x00")
	mayBe(t, api.Inst{Code: 1, A: 1, B: 3}, "\x01\x01\x03\x00")
	mayBe(t, api.Inst{Code: 1, A: 2, B: 2}, "\x01\x02\x02\x00")
	mayBe(t, api.Inst{Code: 2, A: 1, B: 2, C: 3}, "\x02\x01\x02\x03")
	mayBe(t, api.Inst{Code: 3, A: 3, B: 1, C: 2}, "\x03\x03\x01\x02")
	mayBe(t, api.Inst{Code: 4, A: 1, B: 16}, "\x04\x01\x10\x00")
	mayBe(t, api.Inst{Code: 4}, "\x04\x00\x00\x00")
	mayBe(t, api.Inst{Code: 5}, "\x05\x00\x00\x00")
	mayBe(t, api.Inst{Code: 6, A: 128}, "\x06\x80\x00\x00")
	mayBe(t, api.Inst{Code: 6, A: 255}, "\x06\xff\x00\x00")
}

func TestOrdinaryWrongOnes(t *testing.T) {
	wrong := []api.Inst{
		{Code: 0, A: 4}, {Code: 0, B: 256}, {Code: 0, C: 1},
		{Code: 1, A: 4}, {Code: 1, B: 4}, {Code: 1, C: 1},
		{Code: 2, A: 4}, {Code: 2, B: 4}, {Code: 2, C: 4},
		{Code: 3, A: 4}, {Code: 3, B: 4}, {Code: 3, C: 4},
		{Code: 4, A: 4}, {Code: 4, B: 17}, {Code: 4, C: 1},
		{Code: 5, A: 1}, {Code: 5, B: 1}, {Code: 5, C: 1},
		{Code: 6, A: 256}, {Code: 6, B: 1}, {Code: 6, C: 1},
		{Code: 7}, {Code: -1}, {A: -1}, {B: -1}, {C: -1},
	}
	for _, i := range wrong {
		mayNotBe(t, i)
	}
}

func TestEveryOneThatMayBe(t *testing.T) {
	many := 0
	everyGood(func(i api.Inst) {
		many++
		mayBe(t, i, told(i.Code, i.A, i.B, i.C))
	})
	if want := 4*256 + 4*4 + 64 + 64 + 4*17 + 1 + 256; many != want {
		t.Fatalf("%d instructions were asked, want %d", many, want)
	}
}

// A, B and C go through the edges of every Code, beside one another.
func TestAtAndBeyondTheEdges(t *testing.T) {
	for code := range 7 {
		for _, a := range near {
			for _, b := range near {
				for _, c := range near {
					i := api.Inst{Code: code, A: a, B: b, C: c}
					if within(code, a, b, c) {
						mayBe(t, i, told(code, a, b, c))
						continue
					}
					mayNotBe(t, i)
					getRefused(t, told(code, a, b, c))
				}
			}
		}
	}
}

// The next one behind the last that may be is wrong, whatever the others are; where a Code does not name it, 1 is that one.
func TestTheNextOne(t *testing.T) {
	everyGood(func(i api.Inst) {
		for field, end := range most[i.Code] {
			mayNotBe(t, with(i, field, end+1))
			mayNotBe(t, with(i, field, -1))
		}
	})
}

// Each of A, B and C alone is far off, beside others that may be.
func TestFarNumbers(t *testing.T) {
	everyGood(func(i api.Inst) {
		for field := range 3 {
			for _, wrong := range far {
				mayNotBe(t, with(i, field, wrong))
			}
		}
	})
}

// What a Code does not name is 0, and no other number.
func TestWhatACodeDoesNotName(t *testing.T) {
	unnamed := [7][]int{{2}, {2}, nil, nil, {2}, {0, 1, 2}, {1, 2}}
	everyGood(func(i api.Inst) {
		for _, field := range unnamed[i.Code] {
			for n := 1; n <= 300; n++ {
				mayNotBe(t, with(i, field, n))
				mayNotBe(t, with(i, field, -n))
			}
		}
	})
}

func TestNumbersThatAreNoCode(t *testing.T) {
	none := append([]int{7, 8, 9, 15, 16, 31, 32, 64, 127, 128, 129, 130, 255}, far...)
	for _, code := range none {
		everyGood(func(i api.Inst) {
			i.Code = code
			mayNotBe(t, i)
		})
	}
	for code := 7; code < 256; code++ {
		mayNotBe(t, api.Inst{Code: code})
		getRefused(t, told(code, 0, 0, 0))
		getRefused(t, told(code, 3, 3, 3))
	}
}

func TestAllIsWrong(t *testing.T) {
	for _, wrong := range far {
		for _, other := range far {
			mayNotBe(t, api.Inst{Code: wrong, A: other, B: wrong, C: other})
			for code := range 7 {
				mayNotBe(t, api.Inst{Code: code, A: wrong, B: other, C: wrong})
				mayNotBe(t, api.Inst{Code: code, A: wrong, B: other})
				mayNotBe(t, api.Inst{Code: code, B: wrong, C: other})
				mayNotBe(t, api.Inst{Code: code, A: other, C: wrong})
			}
		}
	}
}

// Texts of every other length are refused, ones that begin or end with a good one too.
func TestWrongLengths(t *testing.T) {
	getRefused(t, "")
	everyGood(func(i api.Inst) {
		text := told(i.Code, i.A, i.B, i.C)
		for n := range 4 {
			getRefused(t, text[:n])
			getRefused(t, text[4-n:][:n])
		}
		for _, more := range []string{"\x00", "\x00\x00", "\x00\x00\x00", "\x05", "\xff", text} {
			getRefused(t, text+more)
			getRefused(t, more+text)
		}
	})
	for n := range 300 {
		if n != 4 {
			getRefused(t, strings.Repeat("\x00", n))
			getRefused(t, strings.Repeat("\x01", n))
		}
	}
	getRefused(t, strings.Repeat("\x00", 1<<16))
	getRefused(t, strings.Repeat("\x00", 1<<16+4))
}

// Every byte goes into every place of every text of Put's; what is then none of Put's is refused.
func TestEveryByteInEveryPlace(t *testing.T) {
	everyGood(func(i api.Inst) {
		for place := range 4 {
			for n := range 256 {
				text := []byte(told(i.Code, i.A, i.B, i.C))
				text[place] = byte(n)
				code, a, b, c := int(text[0]), int(text[1]), int(text[2]), int(text[3])
				if !within(code, a, b, c) {
					getRefused(t, string(text))
				} else if got, e := Get(string(text)); got != (api.Inst{Code: code, A: a, B: b, C: c}) || e != api.OK {
					t.Errorf("P7.1: Get(%q) = %v, %d", text, got, e)
				}
			}
		}
	})
}

// Texts are bytes, not runes: what is no UTF-8, and what is, of four bytes each.
func TestTextsOfGreatBytes(t *testing.T) {
	for _, text := range []string{
		"\x80\x80\x80\x80", "\xff\xff\xff\xff", "\x80\x00\x00\x00", "\x00\x80\x00\x00", "\x00\x00\x00\x80", "\x05\x00\x00\xff", "\x85\x00\x00\x00", "\xff\xfe\xfd\xfc",
		"\xf0\x9f\x98\x80", "\xc3\xa9\xc3\xa9", "0000", "5000", "    ",
	} {
		getRefused(t, text)
	}
	// Four runes, but more than four bytes.
	getRefused(t, "\x00\x00\u00c8\x00")
	getRefused(t, "\x06\u00ff\x00\x00")
	mayBe(t, api.Inst{Code: 0, A: 0, B: 128}, "\x00\x00\x80\x00")
	mayBe(t, api.Inst{Code: 6, A: 0xc3}, "\x06\xc3\x00\x00")
}

// The same calls answer the same again, behind calls that are refused, and from several goroutines at one time.
func TestAnswersHangOnArgumentsAlone(t *testing.T) {
	var all sync.WaitGroup
	for range 8 {
		all.Add(1)
		go func() {
			defer all.Done()
			for range 100 {
				mayBe(t, api.Inst{Code: 2, A: 1, B: 2, C: 3}, "\x02\x01\x02\x03")
				mayNotBe(t, api.Inst{Code: 2, A: 1, B: 2, C: 4})
				mayBe(t, api.Inst{Code: 4, A: 3, B: 16}, "\x04\x03\x10\x00")
				getRefused(t, "\x04\x03\x11\x00")
			}
		}()
	}
	all.Wait()
}
