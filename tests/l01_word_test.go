package tests

import (
	"bytes"
	"math"
	"testing"

	"loop.example/g00670/impl"
)

// Promise 2: words are decoded from their bytes; of two serial numbers at most
// one precedes the other, and adding the same step preserves this.

// allNumbers is how many words there are.
const allNumbers = 4294967296

// someWords lie where bytes, halves and the whole range end.
func someWords() []int64 {
	return []int64{
		0, 1, 2, 5, 127, 128, 255, 256, 258, 65535, 65536, 16777215, 16777216,
		16909060, 305419896, 1073741824, 2147483646, 2147483647, 2147483648,
		2147483649, 3405691582, 4294967040, 4294967293, 4294967294, 4294967295,
	}
}

// noWords include numbers whose low 32 bits alone would be a word in order.
func noWords() []int64 {
	return []int64{
		-1, -2, -2147483648, -4294967295, -4294967296, math.MinInt64, math.MinInt64 + 1,
		4294967296, 4294967297, 4294967301, 8589934592, math.MaxInt64 - 1, math.MaxInt64,
	}
}

// anyNumbers are words and others.
func anyNumbers() []int64 {
	return append(someWords(), noWords()...)
}

func wantInt(t *testing.T, got impl.IntResult, want int64, call string, args ...int64) {
	t.Helper()
	if got != (impl.IntResult{Value: want}) {
		t.Errorf("%s %v = %+v, want the value %d", call, args, got, want)
	}
}

func wantRange(t *testing.T, got impl.IntResult, call string, args ...int64) {
	t.Helper()
	if got != (impl.IntResult{Code: impl.ErrRange}) {
		t.Errorf("%s %v = %+v, want ErrRange and the value 0", call, args, got)
	}
}

func TestCodes(t *testing.T) {
	codes := []int64{
		impl.OK, impl.ErrForm, impl.ErrMany, impl.ErrRange, impl.ErrNone, impl.ErrText,
		impl.ErrTaken, impl.ErrFull, impl.ErrState, impl.ErrSum, impl.ErrAuth,
	}
	for want, code := range codes {
		if code != int64(want) {
			t.Errorf("code %d is %d", want, code)
		}
	}
	if impl.MaxWord != allNumbers-1 {
		t.Errorf("MaxWord is %d", int64(impl.MaxWord))
	}
}

func TestAddWords(t *testing.T) {
	for _, c := range []struct{ a, b, want int64 }{
		{0, 0, 0},
		{1, 2, 3},
		{65535, 1, 65536},
		{2147483647, 1, 2147483648},
		{4294967295, 0, 4294967295},
		{0, 4294967295, 4294967295},
		{4294967294, 1, 4294967295},
		{4294967295, 1, 0},
		{1, 4294967295, 0},
		{4294967295, 2, 1},
		{2147483648, 2147483648, 0},
		{4294967295, 4294967295, 4294967294},
	} {
		wantInt(t, impl.AddWords(c.a, c.b), c.want, "AddWords", c.a, c.b)
	}
	for _, a := range someWords() {
		for _, b := range someWords() {
			wantInt(t, impl.AddWords(a, b), (a+b)%allNumbers, "AddWords", a, b)
		}
	}
}

func TestRotateWord(t *testing.T) {
	for _, c := range []struct{ w, n, want int64 }{
		{1, 1, 2147483648},
		{256, 8, 1},
		{5, 0, 5},
		{0, 0, 0},
		{0, 17, 0},
		{4294967295, 0, 4294967295},
		{4294967295, 31, 4294967295},
		{2147483648, 1, 1073741824},
		{1, 31, 2},
		{2147483648, 31, 1},
		{3, 31, 6},
		{305419896, 4, 2166572391},
		{305419896, 16, 1450709556},
		{305419896, 28, 591751041},
	} {
		wantInt(t, impl.RotateWord(c.w, c.n), c.want, "RotateWord", c.w, c.n)
	}
	for _, w := range someWords() {
		turned := w
		for n := range int64(32) {
			wantInt(t, impl.RotateWord(w, n), turned, "RotateWord", w, n)
			turned = turned/2 + turned%2*2147483648
		}
	}
}

func TestPackWord(t *testing.T) {
	for _, c := range []struct {
		w    int64
		want []byte
	}{
		{0, []byte{0, 0, 0, 0}},
		{1, []byte{0, 0, 0, 1}},
		{258, []byte{0, 0, 1, 2}},
		{16909060, []byte{1, 2, 3, 4}},
		{2147483648, []byte{128, 0, 0, 0}},
		{4278255360, []byte{255, 0, 255, 0}},
		{4294967295, []byte{255, 255, 255, 255}},
	} {
		got := impl.PackWord(c.w)
		if got.Code != impl.OK || !bytes.Equal(got.Bytes, c.want) {
			t.Errorf("PackWord(%d) = %+v, want %v", c.w, got, c.want)
		}
	}
}

func TestWordAt(t *testing.T) {
	data := []byte{9, 0, 0, 1, 2, 255, 254, 253, 252}
	for _, c := range []struct{ at, want int64 }{
		{0, 150994945},
		{1, 258},
		{2, 66303},
		{4, 50331389},
		{5, 4294901244}, // the last place where four bytes exist
	} {
		wantInt(t, impl.WordAt(data, c.at), c.want, "WordAt", c.at)
	}
	for at := int64(6); at < 12; at++ {
		wantRange(t, impl.WordAt(data, at), "WordAt near the end", at)
	}
	wantInt(t, impl.WordAt([]byte{1, 2, 3, 4}, 0), 16909060, "WordAt of four bytes", 0)
	wantRange(t, impl.WordAt([]byte{1, 2, 3, 4}, 1), "WordAt one after", 1)
}

func TestWordsAreDecodedFromTheirBytes(t *testing.T) {
	for _, w := range someWords() {
		packed := impl.PackWord(w)
		if packed.Code != impl.OK || len(packed.Bytes) != 4 {
			t.Fatalf("PackWord(%d) = %+v", w, packed)
		}
		wantInt(t, impl.WordAt(packed.Bytes, 0), w, "WordAt of PackWord", 0)
		for before := range 5 {
			for after := range 5 {
				data := append(bytes.Repeat([]byte{170}, before), packed.Bytes...)
				data = append(data, bytes.Repeat([]byte{85}, after)...)
				wantInt(t, impl.WordAt(data, int64(before)), w, "WordAt of PackWord amid others", int64(before))
			}
		}
	}
}

func TestSerialGap(t *testing.T) {
	for _, c := range []struct{ a, b, want int64 }{
		{0, 0, 0},
		{7, 7, 0},
		{4294967295, 4294967295, 0},
		{3, 10, 7},
		{10, 3, 4294967289},
		{4294967295, 0, 1},
		{0, 4294967295, 4294967295},
		{4294967295, 2, 3},
		{2, 4294967295, 4294967293},
		{0, 2147483647, 2147483647},
		{0, 2147483648, 2147483648},
		{2147483648, 0, 2147483648},
		{4294967295, 2147483646, 2147483647},
		{4294967295, 2147483647, 2147483648},
		{4294967295, 2147483648, 2147483649},
	} {
		wantInt(t, impl.SerialGap(c.a, c.b), c.want, "SerialGap", c.a, c.b)
	}
	for _, a := range someWords() {
		for _, step := range someWords() {
			sum := impl.AddWords(a, step)
			wantInt(t, impl.SerialGap(a, sum.Value), step, "SerialGap to AddWords", a, sum.Value)
		}
	}
}

func TestSerialLess(t *testing.T) {
	for _, a := range someWords() {
		for _, c := range []struct {
			gap        int64
			less, more bool
		}{
			{0, false, false},
			{1, true, false},
			{2, true, false},
			{65536, true, false},
			{2147483646, true, false},
			{2147483647, true, false},
			{2147483648, false, false}, // half of all numbers
			{2147483649, false, true},
			{4294967294, false, true},
			{4294967295, false, true},
		} {
			b := (a + c.gap) % allNumbers
			if got := impl.SerialLess(a, b); got != c.less {
				t.Errorf("SerialLess(%d, %d) = %t", a, b, got)
			}
			if got := impl.SerialLess(b, a); got != c.more {
				t.Errorf("SerialLess(%d, %d) = %t", b, a, got)
			}
		}
	}
}

func TestAtMostOnePrecedesTheOther(t *testing.T) {
	for _, a := range someWords() {
		for _, b := range someWords() {
			less, more := impl.SerialLess(a, b), impl.SerialLess(b, a)
			if less && more {
				t.Errorf("%d and %d precede each other", a, b)
			}
			apart := a != b && (a+2147483648)%allNumbers != b
			if (less || more) != apart {
				t.Errorf("%d and %d: one precedes the other: %t", a, b, less || more)
			}
		}
	}
}

func TestTheSameStepPreservesTheOrder(t *testing.T) {
	for _, a := range someWords() {
		for _, b := range someWords() {
			for _, step := range someWords() {
				c, d := impl.AddWords(a, step).Value, impl.AddWords(b, step).Value
				if impl.SerialGap(c, d) != impl.SerialGap(a, b) {
					t.Errorf("the step %d changes the gap of %d and %d", step, a, b)
				}
				if impl.SerialLess(c, d) != impl.SerialLess(a, b) {
					t.Errorf("the step %d changes the order of %d and %d", step, a, b)
				}
			}
		}
	}
}

func TestNumbersThatAreNoWords(t *testing.T) {
	for _, bad := range noWords() {
		for _, other := range anyNumbers() {
			wantRange(t, impl.AddWords(bad, other), "AddWords", bad, other)
			wantRange(t, impl.AddWords(other, bad), "AddWords", other, bad)
			wantRange(t, impl.SerialGap(bad, other), "SerialGap", bad, other)
			wantRange(t, impl.SerialGap(other, bad), "SerialGap", other, bad)
			wantRange(t, impl.RotateWord(bad, other), "RotateWord", bad, other)
			if impl.SerialLess(bad, other) || impl.SerialLess(other, bad) {
				t.Errorf("SerialLess of %d and %d holds", bad, other)
			}
		}
		for n := range int64(32) {
			wantRange(t, impl.RotateWord(bad, n), "RotateWord", bad, n)
		}
		if got := impl.PackWord(bad); got.Code != impl.ErrRange || len(got.Bytes) != 0 {
			t.Errorf("PackWord(%d) = %+v", bad, got)
		}
	}
}

func TestRotationsOutOfRange(t *testing.T) {
	for _, n := range []int64{
		-1, -31, -32, 32, 33, 64, 256, 4294967296, 4294967297, math.MinInt64, math.MaxInt64,
	} {
		for _, w := range someWords() {
			wantRange(t, impl.RotateWord(w, n), "RotateWord", w, n)
		}
	}
}

func TestPlacesOutOfRange(t *testing.T) {
	places := []int64{
		-1, -2, -3, -4, -5, -4294967296, -4294967295, math.MinInt64, math.MinInt64 + 1,
		4294967296, 4294967297, math.MaxInt64, math.MaxInt64 - 1, math.MaxInt64 - 2,
		math.MaxInt64 - 3, math.MaxInt64 - 4, math.MaxInt64 - 5,
	}
	for size := range 12 {
		data := bytes.Repeat([]byte{7}, size)
		for _, at := range places {
			wantRange(t, impl.WordAt(data, at), "WordAt", at)
		}
	}
	for _, at := range places {
		wantRange(t, impl.WordAt(nil, at), "WordAt of nil", at)
	}
}

func TestTooFewBytes(t *testing.T) {
	wantRange(t, impl.WordAt(nil, 0), "WordAt of nil", 0)
	for size := range 4 {
		for at := range int64(6) {
			wantRange(t, impl.WordAt(make([]byte, size), at), "WordAt", at)
			// The bytes after the end of the slice do not belong to it.
			wantRange(t, impl.WordAt(make([]byte, size, 16), at), "WordAt", at)
		}
	}
	wantRange(t, impl.WordAt(make([]byte, 6, 16), 3), "WordAt", 3)
}
