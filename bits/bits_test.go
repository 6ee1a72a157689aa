package bits_test

import (
	"hash/crc32"
	"math"
	"slices"
	"strings"
	"testing"

	"almonry/api"
	"almonry/bits"
)

// numbers are those around each place where the sevens, or the bytes, become one more.
func numbers() []int {
	ns := []int{0, 1, 2, 300, math.MaxInt - 1, math.MaxInt}
	for shift := 1; shift < 63; shift++ {
		n := 1 << shift
		ns = append(ns, n-1, n, n+1)
	}
	return ns
}

// eachText calls back with every text of at most so many of the letters.
func eachText(letters string, most int, back func(string)) {
	var grow func(string)
	grow = func(s string) {
		back(s)
		if len(s) == most {
			return
		}
		for i := range len(letters) {
			grow(s + letters[i:i+1])
		}
	}
	grow("")
}

// P1.1

func TestSumOfKnownTexts(t *testing.T) {
	for s, want := range map[string]uint32{
		"":          0,
		"a":         0xE8B7BE43,
		"123456789": 0xCBF43926,
		"\x00":      0xD202EF8D,
		"\xff":      0xFF000000,
	} {
		if got := bits.Sum(s); got != want {
			t.Errorf("Sum(%q) = %08X, want %08X", s, got, want)
		}
	}
}

func TestSumAsTheLibrarySays(t *testing.T) {
	var data []byte
	for i := range 1200 {
		if got, want := bits.Sum(string(data)), crc32.ChecksumIEEE(data); got != want {
			t.Fatalf("of %d bytes: %08X, want %08X", len(data), got, want)
		}
		data = append(data, byte(i*i*31+i*7))
	}
}

// P1.2

func TestBig(t *testing.T) {
	for _, x := range []struct {
		n, width int
		want     string
	}{
		{258, 2, "\x01\x02"},
		{258, 1, "\x02"},
		{258, 3, "\x00\x01\x02"},
		{0, 1, "\x00"},
		{0, 8, strings.Repeat("\x00", 8)},
		{0x0102030405060708, 8, "\x01\x02\x03\x04\x05\x06\x07\x08"},
		{0x0102030405060708, 7, "\x02\x03\x04\x05\x06\x07\x08"},
		{math.MaxInt, 8, "\x7f" + strings.Repeat("\xff", 7)},
		{math.MaxInt, 4, "\xff\xff\xff\xff"},
		{-1, 2, ""},
		{math.MinInt, 8, ""},
		{1, 0, ""},
		{1, -1, ""},
		{1, 9, ""},
		{1, math.MinInt, ""},
		{1, math.MaxInt, ""},
		{-1, 9, ""},
	} {
		if got := bits.Big(x.n, x.width); got != x.want {
			t.Errorf("Big(%d, %d) = % X, want % X", x.n, x.width, got, x.want)
		}
	}
}

func TestOf(t *testing.T) {
	for s, want := range map[string]int{
		"":                                     0,
		"\x00":                                 0,
		"\x01\x02":                             258,
		"\xff":                                 255,
		"\x00\x00\x01\x02":                     258,
		"\x7f" + strings.Repeat("\xff", 7):     math.MaxInt,
		strings.Repeat("\xff", 8):              math.MaxInt,
		strings.Repeat("\xff", 100):            math.MaxInt,
		"\x80" + strings.Repeat("\x00", 7):     0,
		"\x80" + strings.Repeat("\x00", 6):     1 << 55,
		"\x01" + strings.Repeat("\x00", 8):     0,
		"\x09\x80\x00\x00\x00\x00\x00\x01\x02": 258,
		strings.Repeat("\xab", 50) + "\x00\x00\x00\x00\x00\x00\x01\x02": 258,
	} {
		if got := bits.Of(s); got != want {
			t.Errorf("Of(% X) = %d, want %d", s, got, want)
		}
	}
}

// P1.3

func TestNewHasLaidNothing(t *testing.T) {
	w := bits.New()
	if w == nil {
		t.Fatal("nil")
	}
	if got := w.Bytes(); got != "" {
		t.Errorf("% X", got)
	}
	w.Num()
	if got := w.Bytes(); got != "" {
		t.Errorf("behind Num of nothing: % X", got)
	}
}

func TestLaysNumbers(t *testing.T) {
	for _, x := range []struct {
		n    int
		want string
	}{
		{0, "\x00"},
		{1, "\x01"},
		{127, "\x7f"},
		{128, "\x80\x01"},
		{255, "\xff\x01"},
		{300, "\xac\x02"},
		{16383, "\xff\x7f"},
		{16384, "\x80\x80\x01"},
		{1 << 56, strings.Repeat("\x80", 8) + "\x01"},
		{math.MaxInt, strings.Repeat("\xff", 8) + "\x7f"},
		{-1, "\x00"},
		{-5, "\x00"},
		{math.MinInt, "\x00"},
	} {
		w := bits.New()
		w.Num(x.n)
		if got := w.Bytes(); got != x.want {
			t.Errorf("Num(%d) lays % X, want % X", x.n, got, x.want)
		}
	}
}

func TestLaysTexts(t *testing.T) {
	for _, n := range []int{0, 1, 2, 127, 128, 16383, 16384} {
		text := strings.Repeat("\x80", n)
		counted, w := bits.New(), bits.New()
		counted.Num(n)
		w.Text(text)
		if w.Bytes() != counted.Bytes()+text {
			t.Errorf("a text of %d bytes", n)
		}
	}
	w := bits.New()
	w.Text("\xff\x00é")
	if got := w.Bytes(); got != "\x04\xff\x00\xc3\xa9" {
		t.Errorf("% X", got)
	}
}

func TestLaysOneBehindTheOther(t *testing.T) {
	w := bits.New()
	w.Num(300, -5, 0)
	w.Text("ab")
	const first = "\xac\x02\x00\x00\x02ab"
	for range 2 {
		if got := w.Bytes(); got != first {
			t.Errorf("% X", got)
		}
	}
	w.Text("")
	w.Num(1, 128)
	if got := w.Bytes(); got != first+"\x00\x01\x80\x01" {
		t.Errorf("% X", got)
	}
}

func TestNumIsVariadic(t *testing.T) {
	var num func(*bits.Writer, ...int) = (*bits.Writer).Num
	room := []int{1, 300, -5, 7, 8}
	ns := room[:3]
	spread, single := bits.New(), bits.New()
	num(spread, ns...)
	for _, n := range ns {
		num(single, n)
	}
	if spread.Bytes() != single.Bytes() || spread.Bytes() != "\x01\xac\x02\x00" {
		t.Errorf("% X and % X", spread.Bytes(), single.Bytes())
	}
	if !slices.Equal(room, []int{1, 300, -5, 7, 8}) {
		t.Error("the numbers were written into: ", room)
	}
	room[0] = 99
	if spread.Bytes() != "\x01\xac\x02\x00" {
		t.Error("the numbers were kept")
	}
}

func TestWritersAreApart(t *testing.T) {
	one, two := bits.New(), bits.New()
	one.Num(1)
	before := one.Bytes()
	two.Num(2)
	one.Num(3)
	two.Text("x")
	if before != "\x01" || one.Bytes() != "\x01\x03" || two.Bytes() != "\x02\x01x" {
		t.Errorf("% X, % X, % X", before, one.Bytes(), two.Bytes())
	}
}

func TestNilWriter(t *testing.T) {
	var w *bits.Writer
	w.Num()
	w.Num(1, 2)
	w.Text("a")
	if got := w.Bytes(); got != "" {
		t.Errorf("% X", got)
	}
}

// P1.4

func TestReadsNumbers(t *testing.T) {
	for _, x := range []struct {
		data       string
		most, want int
		left       int
		err        api.Errno
	}{
		{"\x00", 0, 0, 0, api.OK},
		{"\x00", -1, 0, 0, api.OK},
		{"\x00", math.MinInt, 0, 0, api.OK},
		{"\x00\x00", 0, 0, 1, api.OK},
		{"\x01", 0, 0, 0, api.ErrNumber},
		{"\x01", -1, 0, 0, api.ErrNumber},
		{"\x7f\x80", 127, 127, 1, api.OK},
		{"\x7f\x80", 126, 0, 0, api.ErrNumber},
		{"\xac\x02", 300, 300, 0, api.OK},
		{"\xac\x02\x05", 301, 300, 1, api.OK},
		{"\xac\x02", 299, 0, 0, api.ErrNumber},
		{"\x80\x01", 128, 128, 0, api.OK},
		{"\x80\x80\x01", 16384, 16384, 0, api.OK},
		{"", 9, 0, 0, api.ErrShort},
		{"\x80", 9, 0, 0, api.ErrShort},
		{"\x80", 0, 0, 0, api.ErrShort},
		{"\xff\xff", 0, 0, 0, api.ErrShort},
		{strings.Repeat("\xff", 8), math.MaxInt, 0, 0, api.ErrShort},
		{"\x80\x00", 9, 0, 0, api.ErrNumber},
		{"\xff\x00", math.MaxInt, 0, 0, api.ErrNumber},
		{"\x80\x80\x00\x01", math.MaxInt, 0, 0, api.ErrNumber},
		{strings.Repeat("\x80", 8) + "\x00", math.MaxInt, 0, 0, api.ErrNumber},
		{strings.Repeat("\x80", 8) + "\x01", math.MaxInt, 1 << 56, 0, api.OK},
		{strings.Repeat("\xff", 8) + "\x7f", math.MaxInt, math.MaxInt, 0, api.OK},
		{strings.Repeat("\xff", 8) + "\x7f", math.MaxInt - 1, 0, 0, api.ErrNumber},
		{strings.Repeat("\xff", 9), math.MaxInt, 0, 0, api.ErrNumber},
		{strings.Repeat("\x80", 9), math.MaxInt, 0, 0, api.ErrNumber},
		{strings.Repeat("\x80", 9) + "\x01", math.MaxInt, 0, 0, api.ErrNumber},
		{strings.Repeat("\xff", 200), math.MaxInt, 0, 0, api.ErrNumber},
	} {
		r := bits.Read(x.data)
		if got := r.Num(x.most); got != x.want || r.Err() != x.err || r.Left() != x.left {
			t.Errorf("Num(%d) of % X = %d, %v, left %d", x.most, x.data, got, r.Err(), r.Left())
		}
	}
}

func TestReadsOneBehindTheOther(t *testing.T) {
	r := bits.Read("\xac\x02\x00\x02ab\x05")
	if r == nil || r.Left() != 7 {
		t.Fatal("begin")
	}
	if r.Num(300) != 300 || r.Num(0) != 0 || r.Text(2) != "ab" || r.Left() != 1 || r.Num(5) != 5 || r.Left() != 0 || r.End() != api.OK {
		t.Error("a number, a number, a text, a number")
	}
	if r.Num(5) != 0 || r.Err() != api.ErrShort || r.End() != api.ErrShort {
		t.Error("behind the end")
	}
}

// P1.5

func TestReadsTexts(t *testing.T) {
	for _, x := range []struct {
		data string
		most int
		want string
		left int
		err  api.Errno
	}{
		{"\x00", 0, "", 0, api.OK},
		{"\x00", -1, "", 0, api.OK},
		{"\x00abc", 9, "", 3, api.OK},
		{"\x02ab", 2, "ab", 0, api.OK},
		{"\x02abc", 9, "ab", 1, api.OK},
		{"\x02\x00\xff", 2, "\x00\xff", 0, api.OK},
		{"\x02ab", 1, "", 0, api.ErrNumber},
		{"\x01a", -1, "", 0, api.ErrNumber},
		{"\x02a", 1, "", 0, api.ErrNumber},
		{"\x02a", 9, "", 0, api.ErrShort},
		{"\x02", 9, "", 0, api.ErrShort},
		{"", 9, "", 0, api.ErrShort},
		{"\x82", 9, "", 0, api.ErrShort},
		{"\x82\x00ab", 9, "", 0, api.ErrNumber},
		{"\x80\x01" + strings.Repeat("x", 128), 128, strings.Repeat("x", 128), 0, api.OK},
		{strings.Repeat("\xff", 8) + "\x7f" + "ab", math.MaxInt, "", 0, api.ErrShort},
	} {
		r := bits.Read(x.data)
		if got := r.Text(x.most); got != x.want || r.Err() != x.err || r.Left() != x.left {
			t.Errorf("Text(%d) of % X = %q, %v, left %d", x.most, x.data, got, r.Err(), r.Left())
		}
	}
}

// P1.6

func TestAskingChangesNothing(t *testing.T) {
	r := bits.Read("\x05\x01a")
	for range 3 {
		if r.Left() != 3 || r.Err() != api.OK || r.End() != api.ErrMore {
			t.Error(r.Left(), r.Err(), r.End())
		}
	}
	if r.Num(5) != 5 || r.End() != api.ErrMore || r.Text(1) != "a" || r.End() != api.OK || r.Err() != api.OK {
		t.Error("behind asking")
	}
	if r = bits.Read(""); r.Left() != 0 || r.Err() != api.OK || r.End() != api.OK {
		t.Error("of no bytes")
	}
}

func TestWhatWasWrongFirstStays(t *testing.T) {
	for _, x := range []struct {
		data string
		take func(*bits.Reader)
		err  api.Errno
	}{
		{"\x05\x01a\x07", func(r *bits.Reader) { r.Num(4) }, api.ErrNumber},
		{"\x80\x00\x01a", func(r *bits.Reader) { r.Num(9) }, api.ErrNumber},
		{"\x80", func(r *bits.Reader) { r.Num(9) }, api.ErrShort},
		{"\x02a", func(r *bits.Reader) { r.Text(9) }, api.ErrShort},
		{"\x02ab\x01", func(r *bits.Reader) { r.Text(1) }, api.ErrNumber},
	} {
		r := bits.Read(x.data)
		x.take(r)
		for range 2 {
			if r.Err() != x.err || r.End() != x.err || r.Left() != 0 {
				t.Errorf("% X: %v, %v, %d left", x.data, r.Err(), r.End(), r.Left())
			}
			if r.Num(math.MaxInt) != 0 || r.Text(math.MaxInt) != "" || r.Num(-1) != 0 {
				t.Errorf("% X: read on", x.data)
			}
		}
	}
}

func TestNilReader(t *testing.T) {
	var r *bits.Reader
	for range 2 {
		if r.Num(9) != 0 || r.Text(9) != "" || r.Left() != 0 || r.Err() != api.ErrNil || r.End() != api.ErrNil {
			t.Error(r.Err(), r.End())
		}
	}
}

func TestReadersAreApart(t *testing.T) {
	data := "\x01\x02"
	one, two := bits.Read(data), bits.Read(data)
	one.Num(0)
	if one.Err() != api.ErrNumber || two.Num(1) != 1 || two.Num(2) != 2 || two.End() != api.OK {
		t.Error("one reader's fault is another one's")
	}
}

// P1.7

func TestWhatIsLaidIsRead(t *testing.T) {
	ns := numbers()
	w := bits.New()
	for i, n := range ns {
		w.Num(n)
		w.Text(strings.Repeat("\xff", i))
	}
	exact, wide := bits.Read(w.Bytes()), bits.Read(w.Bytes())
	for i, n := range ns {
		text := strings.Repeat("\xff", i)
		if exact.Num(n) != n || exact.Text(i) != text {
			t.Fatalf("%d: the limits just met", n)
		}
		if wide.Num(math.MaxInt) != n || wide.Text(math.MaxInt) != text {
			t.Fatalf("%d: wide limits", n)
		}
	}
	if exact.End() != api.OK || wide.End() != api.OK {
		t.Error(exact.End(), wide.End())
	}
}

func TestWhatIsReadIsLaidAsTheSameBytes(t *testing.T) {
	good := 0
	eachText("\x00\x01\x02\x7f\x80\xff", 6, func(s string) {
		numbersOf, textsOf := bits.Read(s), bits.Read(s)
		ns, ts := bits.New(), bits.New()
		for numbersOf.Left() > 0 {
			ns.Num(numbersOf.Num(math.MaxInt))
		}
		for textsOf.Left() > 0 {
			ts.Text(textsOf.Text(math.MaxInt))
		}
		if numbersOf.End() == api.OK && ns.Bytes() != s {
			t.Errorf("numbers % X laid as % X", s, ns.Bytes())
		}
		if textsOf.End() == api.OK && ts.Bytes() != s {
			t.Errorf("texts % X laid as % X", s, ts.Bytes())
		}
		if numbersOf.End() == api.OK {
			good++
		}
	})
	if good == 0 {
		t.Error("nothing could be read")
	}
}

func TestOfIsBigTheOtherWayRound(t *testing.T) {
	for _, n := range numbers() {
		for width := 1; width <= 8; width++ {
			want := n
			if width < 8 {
				want = n & (1<<(8*width) - 1)
			}
			if got := bits.Of(bits.Big(n, width)); got != want {
				t.Errorf("Of(Big(%d, %d)) = %d, want %d", n, width, got, want)
			}
		}
	}
}

func TestTextsUnlikeInOneByteHaveUnlikeSums(t *testing.T) {
	for _, text := range []string{"a", "123456789", strings.Repeat("\x00", 64), strings.Repeat("\xff", 40)} {
		for place := range len(text) {
			seen := map[uint32]bool{}
			for b := range 256 {
				data := []byte(text)
				data[place] = byte(b)
				seen[bits.Sum(string(data))] = true
			}
			if len(seen) != 256 {
				t.Errorf("%q, byte %d: %d sums of 256 texts", text, place, len(seen))
			}
		}
	}
}
