package check_test

import (
	"math"
	"slices"
	"strings"
	"testing"

	"almonry/api"
	"almonry/bits"
	"almonry/check"
)

const (
	mostCount = 1<<32 - 1
	mostLSN   = 1<<48 - 1
)

// farNumbers are out of every bound that the chapter names.
var farNumbers = []int{math.MinInt, math.MinInt + 1, -1 << 32, -1, 1 << 48, 1 << 62, math.MaxInt - 1, math.MaxInt}

func least() api.Config { return api.Config{Frames: 4, Modulus: 16, LogSectors: 160, Pages: 4} }

func most() api.Config { return api.Config{Frames: 64, Modulus: 1024, LogSectors: 4096, Pages: 4096} }

// field is one number of a configuration: what it may be, and a way to have it in another one's place.
type field struct {
	name      string
	from, to  int
	even      bool
	with      func(c api.Config, n int) api.Config
	wrongOnes []int
}

func fields() []field {
	return []field{
		{"Frames", 4, 64, false, func(c api.Config, n int) api.Config { c.Frames = n; return c },
			[]int{0, 1, 2, 3, 65, 66, 260, 1<<32 + 4}},
		{"Modulus", 16, 1024, true, func(c api.Config, n int) api.Config { c.Modulus = n; return c },
			[]int{0, 2, 14, 15, 17, 1023, 1025, 1026, 2048, 1<<32 + 16}},
		{"LogSectors", 160, 4096, false, func(c api.Config, n int) api.Config { c.LogSectors = n; return c },
			[]int{0, 4, 158, 159, 4097, 4098, 1<<32 + 160}},
		{"Pages", 4, 4096, false, func(c api.Config, n int) api.Config { c.Pages = n; return c },
			[]int{0, 1, 2, 3, 4097, 4098, 65536, 1<<32 + 4}},
	}
}

// wrongConfigs differ from a sound one in one number each, but the first one, which has none.
func wrongConfigs() []api.Config {
	all := []api.Config{{}}
	for _, f := range fields() {
		for _, n := range slices.Concat(f.wrongOnes, farNumbers) {
			all = append(all, f.with(least(), n), f.with(most(), n))
		}
	}
	return all
}

// soundConfigs have each number at the edges of what it may be, and beside them.
func soundConfigs() []api.Config {
	all := []api.Config{{}}
	for _, f := range fields() {
		var wider []api.Config
		for _, c := range all {
			for _, n := range []int{f.from, f.from + 2, f.to - 2, f.to} {
				wider = append(wider, f.with(c, n))
			}
		}
		all = wider
	}
	return all
}

// controls have each number at its edges, over some configurations.
func controls() []api.Control {
	var all []api.Control
	for _, config := range []api.Config{least(), most(), {Frames: 7, Modulus: 300, LogSectors: 1000, Pages: 259}} {
		for _, count := range []int{1, 2, 3, 255, 256, 257, 1 << 16, 1<<24 + 1, 1 << 31, mostCount - 1, mostCount} {
			for _, start := range []int{1, 2, 255, 256, 1 << 32, mostLSN - 1, mostLSN} {
				for _, last := range []int{0, 1, 255, 256, 1<<40 + 7, mostLSN - 1, mostLSN} {
					all = append(all, api.Control{Config: config, Count: count, Start: start, Check: last})
				}
			}
		}
	}
	return all
}

// laidByHand is the chapter's sector, byte by byte.
func laidByHand(c api.Control) string {
	var sector [64]byte
	lay := func(from, width, n int) {
		for i := range width {
			sector[from+i] = byte(n >> (8 * (width - 1 - i)))
		}
	}
	lay(0, 4, c.Count)
	lay(4, 4, c.Config.Frames)
	lay(8, 4, c.Config.Modulus)
	lay(12, 4, c.Config.LogSectors)
	lay(16, 4, c.Config.Pages)
	lay(20, 6, c.Start)
	lay(26, 6, c.Check)
	lay(60, 4, c.Count)
	return string(sector[:])
}

func encode(t *testing.T, c api.Control) string {
	t.Helper()
	data, err := check.Encode(c)
	if err != api.OK {
		t.Fatalf("Encode(%+v): %v", c, err)
	}
	return data
}

func block(t *testing.T, count, start, last int) string {
	t.Helper()
	return encode(t, api.Control{Config: least(), Count: count, Start: start, Check: last})
}

// takes asks for a block of Decode.
func takes(t *testing.T, data string, place int, want api.Control) {
	t.Helper()
	if c, err := check.Decode(data, place); c != want || err != api.OK {
		t.Errorf("Decode(% X, %d): %+v %v, want %+v", data, place, c, err, want)
	}
}

// refuses asks for ErrForm of Decode, and for noughts beside it.
func refuses(t *testing.T, data string, place int) {
	t.Helper()
	if c, err := check.Decode(data, place); c != (api.Control{}) || err != api.ErrForm {
		t.Errorf("Decode(% X, %d): %+v %v, want ErrForm", data, place, c, err)
	}
}

// finds asks for the block of that Count of Newest; 0 is none.
func finds(t *testing.T, a, b string, count int) {
	t.Helper()
	want, err := api.Control{}, api.ErrForm
	for place, data := range []string{a, b} {
		if c, e := check.Decode(data, place); e == api.OK && c.Count == count {
			want, err = c, api.OK
		}
	}
	if count != 0 && err != api.OK {
		t.Fatalf("no block of Count %d in % X and % X", count, a, b)
	}
	if c, e := check.Newest(a, b); c != want || e != err {
		t.Errorf("Newest(% X, % X): %+v %v, want %+v %v", a, b, c, e, want, err)
	}
}

// P17.1

func TestSoundEdges(t *testing.T) {
	for _, c := range soundConfigs() {
		if !check.Sound(c) {
			t.Errorf("Sound(%+v): false", c)
		}
	}
	for _, c := range wrongConfigs() {
		if check.Sound(c) {
			t.Errorf("Sound(%+v): true", c)
		}
	}
}

func TestSoundOfEveryNumber(t *testing.T) {
	for _, f := range fields() {
		for n := -4200; n <= 4200; n++ {
			want := n >= f.from && n <= f.to && (!f.even || n%2 == 0)
			if check.Sound(f.with(least(), n)) != want || check.Sound(f.with(most(), n)) != want {
				t.Errorf("%s %d: not %v", f.name, n, want)
			}
		}
	}
}

// P17.2

func TestLayout(t *testing.T) {
	for _, x := range []struct {
		c    api.Config
		want api.Layout
	}{
		{least(), api.Layout{Log: 2, Pages: 162, Sectors: 194}},
		{api.Config{Frames: 4, Modulus: 16, LogSectors: 160, Pages: 8}, api.Layout{Log: 2, Pages: 162, Sectors: 226}},
		{api.Config{Frames: 64, Modulus: 1024, LogSectors: 161, Pages: 5}, api.Layout{Log: 2, Pages: 163, Sectors: 203}},
		{most(), api.Layout{Log: 2, Pages: 4098, Sectors: 36866}},
	} {
		if l, err := check.Layout(x.c); l != x.want || err != api.OK {
			t.Errorf("Layout(%+v): %+v %v, want %+v", x.c, l, err, x.want)
		}
	}
}

func TestLayoutLeavesNoGapAndFitsADisk(t *testing.T) {
	for _, c := range soundConfigs() {
		l, err := check.Layout(c)
		if err != api.OK || l.Log != 2 || l.Pages-l.Log != c.LogSectors || l.Sectors-l.Pages != 8*c.Pages {
			t.Errorf("Layout(%+v): %+v %v", c, l, err)
		}
		if l.Sectors > 65536 {
			t.Errorf("Layout(%+v): no disk has %d sectors", c, l.Sectors)
		}
	}
}

func TestLayoutRefuses(t *testing.T) {
	for _, c := range wrongConfigs() {
		if l, err := check.Layout(c); l != (api.Layout{}) || err != api.ErrArg {
			t.Errorf("Layout(%+v): %+v %v, want ErrArg", c, l, err)
		}
	}
}

// P17.3

func TestEncodeOfTheExample(t *testing.T) {
	want := "\x00\x00\x00\x01\x00\x00\x00\x04\x00\x00\x00\x10\x00\x00\x00\xa0\x00\x00\x00\x04" +
		"\x00\x00\x00\x00\x00\x01" + "\x00\x00\x00\x00\x00\x00" + strings.Repeat("\x00", 28) + "\x00\x00\x00\x01"
	if got := block(t, 1, 1, 0); got != want {
		t.Errorf("% X", got)
	}
}

func TestEncodeOfNumbersThatFillTheirBytes(t *testing.T) {
	c := api.Control{Config: most(), Count: 0x01020304, Start: 0x111213141516, Check: 0x212223242526}
	want := "\x01\x02\x03\x04\x00\x00\x00\x40\x00\x00\x04\x00\x00\x00\x10\x00\x00\x00\x10\x00" +
		"\x11\x12\x13\x14\x15\x16" + "\x21\x22\x23\x24\x25\x26" + strings.Repeat("\x00", 28) + "\x01\x02\x03\x04"
	if got := encode(t, c); got != want {
		t.Errorf("% X", got)
	}
	c = api.Control{Config: least(), Count: mostCount, Start: mostLSN, Check: mostLSN}
	got := encode(t, c)
	if got[:4] != strings.Repeat("\xff", 4) || got[20:32] != strings.Repeat("\xff", 12) || got[60:] != got[:4] {
		t.Errorf("% X", got)
	}
}

func TestEncodeAsTheChapterLays(t *testing.T) {
	for _, c := range controls() {
		if got := encode(t, c); got != laidByHand(c) {
			t.Errorf("Encode(%+v): % X", c, got)
		}
	}
}

func TestEncodeRefuses(t *testing.T) {
	good := api.Control{Config: least(), Count: 1, Start: 1}
	var wrong []api.Control
	for _, config := range wrongConfigs() {
		c := good
		c.Config = config
		wrong = append(wrong, c)
	}
	for _, n := range append(farNumbers, 0, 1<<32, 1<<32+1) {
		c := good
		c.Count = n
		wrong = append(wrong, c)
	}
	for _, n := range append(farNumbers, 0, 1<<48+1) {
		c := good
		c.Start = n
		wrong = append(wrong, c)
	}
	for _, n := range append(farNumbers, 1<<48+1) {
		c := good
		c.Check = n
		wrong = append(wrong, c)
	}
	for _, c := range append(wrong, api.Control{}) {
		if data, err := check.Encode(c); data != "" || err != api.ErrArg {
			t.Errorf("Encode(%+v): % X %v, want ErrArg", c, data, err)
		}
	}
}

// P17.4

func TestDecodeOfEncodeIsTheBlock(t *testing.T) {
	for _, c := range controls() {
		data := encode(t, c)
		takes(t, data, c.Count%2, c)
		refuses(t, data, 1-c.Count%2)
	}
}

func TestDecodeOfNoPlace(t *testing.T) {
	for _, count := range []int{1, 2, 3, 4, mostCount} {
		data := block(t, count, 1, 0)
		for _, place := range append([]int{-4, -3, -2, -1, 2, 3, 4, 5, count + 2, -count}, farNumbers...) {
			refuses(t, data, place)
		}
	}
}

func TestDecodeOfOtherLengths(t *testing.T) {
	odd, even := block(t, 1, 1, 0), block(t, 2, 9, 7)
	for place, data := range []string{even, odd} {
		for n := range len(data) {
			refuses(t, data[:n], place)
			refuses(t, data[n+1:], place)
		}
		for _, more := range []string{"\x00", data[60:], data, strings.Repeat("\x00", 448)} {
			refuses(t, data+more, place)
			refuses(t, more+data, place)
		}
	}
}

func TestDecodeOfOneOtherByte(t *testing.T) {
	// Bytes of Start and Check may be others; all else hangs together.
	c := api.Control{Config: api.Config{Frames: 9, Modulus: 300, LogSectors: 1000, Pages: 259}, Count: 513, Start: 70000, Check: 80000}
	data := encode(t, c)
	taken := 0
	for at := range len(data) {
		for b := range 256 {
			other := []byte(data)
			other[at] = byte(b)
			got, err := check.Decode(string(other), 1)
			if again, e := check.Encode(got); err == api.OK && (e != api.OK || again != string(other)) {
				t.Errorf("byte %d is %d: %+v, which is laid as % X", at, b, got, again)
			}
			if err == api.OK {
				taken++
			} else {
				refuses(t, string(other), 1)
			}
			if framed := at < 4 || at >= 32; framed && (err == api.OK) != (string(other) == data) {
				t.Errorf("byte %d is %d: %v", at, b, err)
			}
		}
	}
	// Of each byte: Count 4 and noughts 28 and Count 4 as they are; of Frames 4 to 64, of Modulus an even
	// one from 16 to 1024, of LogSectors 160 to 4096, of Pages 4 to 4096; all of Start and Check.
	frames := 1 + 1 + 1 + 61
	modulus := 1 + 1 + 4 + 128
	logSectors := 1 + 1 + 16 + 256
	pages := 1 + 1 + 15 + 256
	if want := 36 + frames + modulus + logSectors + pages + 12*256; taken != want {
		t.Errorf("%d are taken, want %d", taken, want)
	}
}

func TestDecodeOfWhatEncodeWouldRefuse(t *testing.T) {
	good := api.Control{Config: least(), Count: 1, Start: 1}
	for _, config := range wrongConfigs() {
		c := good
		c.Config = config
		data := laidByHand(c)
		// A number of more than 32 bits is laid as another one, which may be.
		if bits.Of(data[4:8]) == config.Frames && bits.Of(data[8:12]) == config.Modulus &&
			bits.Of(data[12:16]) == config.LogSectors && bits.Of(data[16:20]) == config.Pages {
			refuses(t, data, 1)
		}
	}
	for _, c := range []api.Control{{Config: least(), Count: 0, Start: 1}, {Config: least(), Count: 1, Start: 0}, {Config: least(), Count: 1, Start: 0, Check: 5}, {}} {
		refuses(t, laidByHand(c), 0)
		refuses(t, laidByHand(c), 1)
	}
	for _, data := range []string{"", strings.Repeat("\x00", 64), strings.Repeat("\xff", 64), strings.Repeat("\x01", 64)} {
		refuses(t, data, 0)
		refuses(t, data, 1)
	}
	for _, word := range []string{"\xff\xff\xff\xff", "\x80\x00\x00\x04", "\x00\x01\x00\x10"} {
		data := block(t, 1, 1, 0)
		for at := 4; at < 20; at += 4 {
			refuses(t, data[:at]+word+data[at+4:], 1)
		}
	}
}

func TestDecodeOfTwoCounts(t *testing.T) {
	one, three := block(t, 1, 5, 3), block(t, 3, 5, 3)
	refuses(t, one[:60]+three[60:], 1)
	refuses(t, three[:60]+one[60:], 1)
	refuses(t, one[:60]+"\x00\x00\x00\x00", 1)
	refuses(t, "\x00\x00\x00\x00"+one[4:], 1)
}

// P17.5

func TestNewest(t *testing.T) {
	one, two, three, four := block(t, 1, 1, 0), block(t, 2, 9, 7), block(t, 3, 2, 1), block(t, 4, 1, 0)
	noughts := strings.Repeat("\x00", 64)
	for _, x := range []struct {
		a, b  string
		count int
	}{
		{noughts, one, 1},
		{two, one, 2},
		{two, three, 3},
		{four, three, 4},
		{four, one, 4},
		{two, noughts, 2},
		{two, "", 2},
		{"", three, 3},
		{two[:60] + one[60:], one, 1},
		{two, three[:63] + "\x00", 2},
		{one, two, 0},
		{one, three, 3},
		{one, one, 1},
		{two, four, 2},
		{two, two, 2},
		{one, "", 0},
		{"", two, 0},
		{"", "", 0},
		{noughts, noughts, 0},
		{two + noughts, noughts + one, 0},
		{block(t, mostCount-1, 1, 0), block(t, mostCount, 1, 0), mostCount},
		{block(t, mostCount-1, mostLSN, 0), one, mostCount - 1},
		{two, block(t, mostCount, 1, 0), mostCount},
		{block(t, 256, 1, 0), block(t, 255, mostLSN, mostLSN), 256},
		{block(t, 1<<31, 1, 0), block(t, 1<<31-1, mostLSN, mostLSN), 1 << 31},
	} {
		finds(t, x.a, x.b, x.count)
	}
}

func TestNewestOfAllPairs(t *testing.T) {
	all := controls()
	for i, a := range all {
		b := all[(i*37+11)%len(all)]
		want, err := api.Control{}, api.ErrForm
		if a.Count%2 == 0 {
			want, err = a, api.OK
		}
		if b.Count%2 == 1 && b.Count > want.Count {
			want, err = b, api.OK
		}
		if c, e := check.Newest(encode(t, a), encode(t, b)); c != want || e != err {
			t.Errorf("Newest of %+v and %+v: %+v %v", a, b, c, e)
		}
	}
}

// P17.6

func TestRedo(t *testing.T) {
	for _, x := range []struct {
		at    int
		dirty []api.Owed
		want  int
	}{
		{50, nil, 50},
		{50, []api.Owed{}, 50},
		{50, []api.Owed{{Page: 3, LSN: 40}, {Page: 4}}, 40},
		{50, []api.Owed{{Page: 4}, {Page: 3, LSN: 40}}, 40},
		{50, []api.Owed{{Page: 3, LSN: 40}, {Page: 1, LSN: 39}, {Page: 2, LSN: 41}}, 39},
		{50, []api.Owed{{Page: 3, LSN: 60}}, 50},
		{50, []api.Owed{{Page: 3, LSN: 50}}, 50},
		{50, []api.Owed{{Page: 1, LSN: 0}}, 50},
		{50, []api.Owed{{Page: 1, LSN: -1}, {Page: 2, LSN: math.MinInt}}, 50},
		{50, []api.Owed{{Page: 1, LSN: 1}}, 1},
		{50, []api.Owed{{Page: -7, LSN: 20}, {Page: 0, LSN: 30}}, 20},
		{1, []api.Owed{{Page: 1, LSN: 1}, {Page: 2, LSN: 2}}, 1},
		{0, nil, 0},
		{0, []api.Owed{{Page: 1, LSN: 5}}, 0},
		{-3, []api.Owed{{Page: 1, LSN: 5}, {Page: 1, LSN: -9}}, -3},
		{math.MinInt, []api.Owed{{Page: 1, LSN: 5}}, math.MinInt},
		{math.MaxInt, []api.Owed{{Page: 1, LSN: math.MaxInt}}, math.MaxInt},
		{math.MaxInt, []api.Owed{{Page: 1, LSN: mostLSN}, {Page: 2}}, mostLSN},
	} {
		if got := check.Redo(x.at, x.dirty...); got != x.want {
			t.Errorf("Redo(%d, %v): %d, want %d", x.at, x.dirty, got, x.want)
		}
	}
}

func TestRedoIsVariadic(t *testing.T) {
	var redo func(int, ...api.Owed) int = check.Redo
	if redo(50) != 50 || redo(50, api.Owed{Page: 3, LSN: 40}) != 40 {
		t.Error("of none and of one")
	}
	room := []api.Owed{{Page: 9, LSN: 30}, {Page: 2}, {Page: 5, LSN: 20}, {Page: 1, LSN: 10}}
	kept := slices.Clone(room)
	if n := redo(50, room[:3]...); n != 20 {
		t.Error(n)
	}
	if !slices.Equal(room, kept) {
		t.Error("the table was written into: ", room)
	}
}
