package page_test

import (
	"math"
	"slices"
	"strings"
	"testing"

	"almonry/api"
	"almonry/bits"
	"almonry/page"
)

const (
	head  = 20 // bytes ahead of High
	count = 18 // where the number of items stands
	high  = 19 // where the length of High stands
)

func heap(items ...string) api.Page { return api.Page{LSN: 5, Kind: api.HeapPage, Items: items} }

func long(n int) string { return strings.Repeat("x", n) }

func blanks(n int) []string { return make([]string, n) }

func answers(t *testing.T, what string, got, want api.Errno) {
	t.Helper()
	if got != want {
		t.Errorf("%s: %v, want %v", what, got, want)
	}
}

func holds(t *testing.T, what string, p api.Page, items ...string) {
	t.Helper()
	if !slices.Equal(p.Items, items) {
		t.Errorf("%s: items %q, want %q", what, p.Items, items)
	}
}

func encoded(t *testing.T, p api.Page) string {
	t.Helper()
	data, err := page.Encode(p)
	if len(data) != api.PageSize || err != api.OK {
		t.Fatalf("Encode(%+v): %d bytes, %v", p, len(data), err)
	}
	return data
}

// refuses asks for an error, and for zero values beside it.
func refuses(t *testing.T, what string, p api.Page, err, want api.Errno) {
	t.Helper()
	answers(t, what, err, want)
	if zero(p) {
		return
	}
	t.Errorf("%s: %+v beside an error", what, p)
}

func zero(p api.Page) bool {
	return p.LSN == 0 && p.Kind == 0 && p.Level == 0 && p.Right == 0 && p.High == "" && len(p.Items) == 0
}

// summed is the bytes with their sum put right.
func summed(data string) string {
	return bits.Big(int(bits.Sum(data[4:])), 4) + data[4:]
}

// laid is the page's bytes with others from a place on, and the sum put right.
func laid(data string, at int, bytes string) string {
	return summed(data[:at] + bytes + data[at+len(bytes):])
}

// samples are pages that can be encoded, among them those at the edges.
func samples() []api.Page {
	return []api.Page{
		{Kind: api.ClogPage},
		{Kind: api.HeapPage, Items: []string{}},
		{Kind: api.NodePage, Items: []string{""}},
		heap("ab"),
		heap("ab", "", "c\x00d", "\x00", "\x00\x00"),
		heap("\xff\x80", long(300)),
		{LSN: math.MaxInt, Kind: api.NodePage, Level: 255, Right: math.MaxUint32, High: long(255), Items: []string{"a", long(230)}},
		{LSN: 0x0102030405060708, Kind: api.NodePage, Level: 7, Right: 0x090A0B0C, High: "\x00h\x00", Items: []string{"i"}},
		heap(long(490)),
		heap(blanks(246)...),
	}
}

// P3.1

func TestSizeCountsTheHeadHighAndItems(t *testing.T) {
	for _, c := range []struct {
		p    api.Page
		want int
	}{
		{api.Page{}, 20},
		{api.Page{LSN: 99, Kind: 3, Level: 2, Right: 7}, 20},
		{heap(), 20},
		{heap(""), 22},
		{heap("ab"), 24},
		{heap("ab", "", "cde"), 31},
		{api.Page{High: "hi"}, 22},
		{api.Page{High: "hi", Items: []string{"a", "bc"}}, 29},
		{heap(long(490)), 512},
		{heap(long(491)), 513},
		{api.Page{High: long(1000)}, 1020},
		{heap(blanks(300)...), 620},
	} {
		if got := page.Size(c.p); got != c.want {
			t.Errorf("Size of %d items: %d, want %d", len(c.p.Items), got, c.want)
		}
	}
}

func TestRoomIsForOneItemMore(t *testing.T) {
	for _, c := range []struct {
		p    api.Page
		want int
	}{
		{api.Page{}, 490},
		{heap(), 490},
		{heap(""), 488},
		{heap("ab"), 486},
		{api.Page{High: long(255)}, 235},
		{heap(long(487)), 1},
		{heap(long(488)), 0},
		{heap(long(489)), -1},
		{heap(long(490)), -1},
		{heap(long(491)), -1},
		{heap(long(2000)), -1},
		{api.Page{High: long(490)}, 0},
		{api.Page{High: long(491)}, -1},
		{heap(blanks(245)...), 0},
		{heap(blanks(246)...), -1},
		{heap(blanks(254)...), -1},
		{heap(blanks(255)...), -1},
		{heap(blanks(256)...), -1},
	} {
		if got := page.Room(c.p); got != c.want {
			t.Errorf("Room of a page of %d bytes, %d items: %d, want %d", page.Size(c.p), len(c.p.Items), got, c.want)
		}
	}
}

// P3.2

func TestEncodeLaysEachField(t *testing.T) {
	p := api.Page{LSN: 0x0102030405060708, Kind: api.NodePage, Level: 9, Right: 0x0A0B0C0D, High: "hi", Items: []string{"abc", "", long(258)}}
	want := "\x01\x02\x03\x04\x05\x06\x07\x08" + "\x03" + "\x09" + "\x0A\x0B\x0C\x0D" + "\x03" + "\x02hi" + "\x00\x03abc" + "\x00\x00" + "\x01\x02" + long(258)
	data := encoded(t, p)
	if got := data[4 : 4+len(want)]; got != want {
		t.Errorf("%x, want %x", got, want)
	}
	if rest := data[4+len(want):]; rest != strings.Repeat("\x00", len(rest)) {
		t.Errorf("behind the items: %x", rest)
	}
	if got, want := data[:4], bits.Big(int(bits.Sum(data[4:])), 4); got != want {
		t.Errorf("sum %x, want %x", got, want)
	}
}

func TestEncodeExample(t *testing.T) {
	want := "\x00\x00\x00\x00\x00\x00\x00\x05\x02\x00\x00\x00\x00\x00\x01\x00\x00\x02ab" + strings.Repeat("\x00", 488)
	data := encoded(t, heap("ab"))
	if data[4:] != want || data != summed(data) {
		t.Errorf("%x", data)
	}
}

func TestEncodeTakesTheEdges(t *testing.T) {
	for _, p := range samples() {
		encoded(t, p)
	}
}

func TestEncodeRefusesNumbersOutOfBounds(t *testing.T) {
	for _, p := range []api.Page{
		{},
		{LSN: -1, Kind: 1},
		{LSN: math.MinInt, Kind: 1},
		{Kind: 0},
		{Kind: 4},
		{Kind: -1},
		{Kind: 258},
		{Kind: math.MinInt},
		{Kind: math.MaxInt},
		{Kind: 3, Level: -1},
		{Kind: 3, Level: 256},
		{Kind: 3, Level: math.MinInt},
		{Kind: 3, Level: math.MaxInt},
		{Kind: 3, Right: -1},
		{Kind: 3, Right: math.MaxUint32 + 1},
		{Kind: 3, Right: math.MinInt},
		{Kind: 3, Right: math.MaxInt},
		// ErrRange is named ahead of ErrLong.
		{LSN: -1, Kind: 1, High: long(256)},
		{Kind: 4, Items: []string{long(491)}},
		{Kind: 1, Level: 256, Items: blanks(256)},
		{Kind: 1, Right: -1, High: long(600)},
	} {
		data, err := page.Encode(p)
		if data != "" || err != api.ErrRange {
			t.Errorf("Encode(%+v): %d bytes, %v", p, len(data), err)
		}
	}
}

func TestEncodeRefusesWhatIsTooLong(t *testing.T) {
	for _, p := range []api.Page{
		{Kind: 3, High: long(256)},
		{Kind: 3, High: long(70000)},
		{Kind: 3, High: long(255), Items: []string{long(236)}},
		heap(long(491)),
		heap(long(65536)),
		heap(long(240), long(249)),
		heap(blanks(247)...),
		heap(blanks(255)...),
		heap(blanks(256)...),
		heap(blanks(70000)...),
	} {
		data, err := page.Encode(p)
		if data != "" || err != api.ErrLong {
			t.Errorf("Encode of a page of %d bytes: %d bytes, %v", page.Size(p), len(data), err)
		}
	}
}

// P3.3

func TestDecodeTellsEachField(t *testing.T) {
	data := summed("sum." + "\x01\x02\x03\x04\x05\x06\x07\x08" + "\x03" + "\x09" + "\x0A\x0B\x0C\x0D" + "\x02" + "\x02hi" + "\x00\x03abc" + "\x01\x02" + long(258) + strings.Repeat("\x00", 225))
	p, err := page.Decode(data)
	answers(t, "Decode", err, api.OK)
	if p.LSN != 0x0102030405060708 || p.Kind != api.NodePage || p.Level != 9 || p.Right != 0x0A0B0C0D || p.High != "hi" {
		t.Errorf("%+v", p)
	}
	holds(t, "Decode", p, "abc", long(258))
}

func TestDecodeWantsAPagesNumberOfBytes(t *testing.T) {
	data := encoded(t, heap("ab"))
	for _, d := range []string{"", "\x00", data[:4], data[:511], data + "\x00", data + data} {
		p, err := page.Decode(d)
		refuses(t, "Decode", p, err, api.ErrBody)
	}
}

func TestDecodeRefusesAnotherSum(t *testing.T) {
	data := encoded(t, heap("ab"))
	for at := range len(data) {
		changed := []byte(data)
		changed[at] ^= 0x10
		p, err := page.Decode(string(changed))
		refuses(t, "Decode of a changed byte", p, err, api.ErrSum)
	}
	for _, d := range []string{strings.Repeat("\x00", 512), strings.Repeat("\xff", 512), data[4:] + data[:4]} {
		p, err := page.Decode(d)
		refuses(t, "Decode", p, err, api.ErrSum)
	}
}

func TestDecodeRefusesBytesThatAreNoPages(t *testing.T) {
	data := encoded(t, heap("ab", ""))
	full := encoded(t, heap(long(490)))
	almost := encoded(t, heap(long(489)))
	empty := encoded(t, heap(blanks(246)...))
	for _, d := range []string{
		laid(data, 4, "\x80"),
		laid(data, 4, strings.Repeat("\xff", 8)),
		laid(data, 12, "\x00"),
		laid(data, 12, "\x04"),
		laid(data, 12, "\xff"),
		laid(data, count, "\x00"),
		laid(data, count, "\x01\x00\x00\x02ab\x00\x01"),
		laid(data, count, "\xff"),
		laid(data, high, "\x02"),
		laid(data, high, "\xff\x00\x02ab"+strings.Repeat("\xff", 253)),
		laid(data, head, "\xff\xff"),
		laid(data, head, "\x01\xeb"),
		laid(data, 511, "\x01"),
		laid(data, 26, "\x01"),
		laid(full, count, "\x02"),
		laid(full, head, "\x01\xeb"),
		laid(full, head, "\x01\xe9"),
		laid(almost, count, "\x02"),
		laid(empty, count, "\xf7"),
		laid(empty, count, "\xff"),
		laid(empty, 510, "\x00\x01"),
		summed(strings.Repeat("\x00", 512)),
		summed(strings.Repeat("\xff", 512)),
	} {
		p, err := page.Decode(d)
		refuses(t, "Decode", p, err, api.ErrBody)
	}
}

func TestDecodeTakesOtherBytesThatAreAPages(t *testing.T) {
	data := encoded(t, heap("ab"))
	for _, c := range []struct {
		data string
		want api.Page
	}{
		{laid(data, 4, "\x7f"+strings.Repeat("\xff", 7)), api.Page{LSN: math.MaxInt, Kind: 2, Items: []string{"ab"}}},
		{laid(data, 12, "\x01"), api.Page{LSN: 5, Kind: 1, Items: []string{"ab"}}},
		{laid(data, 13, "\xff\xff\xff\xff\xff"), api.Page{LSN: 5, Kind: 2, Level: 255, Right: math.MaxUint32, Items: []string{"ab"}}},
		{laid(data, count, "\x02"), heap("ab", "")},
		{laid(data, count, "\xf4"), heap(append([]string{"ab"}, blanks(243)...)...)},
		{laid(data, count, "\xf5"), heap(append([]string{"ab"}, blanks(244)...)...)},
		{laid(data, count, "\x00\x04"), api.Page{LSN: 5, Kind: 2, High: "\x00\x02ab"}},
		{laid(data, head, "\x01\xea"), heap("ab" + strings.Repeat("\x00", 488))},
	} {
		p, err := page.Decode(c.data)
		answers(t, "Decode", err, api.OK)
		if !page.Same(p, c.want) {
			t.Errorf("Decode: %+v, want %+v", p, c.want)
		}
	}
}

// P3.4

func TestWithPutsAnItemInsteadOfAnother(t *testing.T) {
	p := api.Page{LSN: 8, Kind: 3, Level: 2, Right: 9, High: "h", Items: []string{"a", "b", "c"}}
	for i, want := range [][]string{{"xyz", "b", "c"}, {"a", "xyz", "c"}, {"a", "b", "xyz"}} {
		q, err := page.With(p, i, "xyz")
		answers(t, "With", err, api.OK)
		if w := (api.Page{LSN: 8, Kind: 3, Level: 2, Right: 9, High: "h", Items: want}); !page.Same(q, w) {
			t.Errorf("With(%d): %+v", i, q)
		}
	}
	q, err := page.With(p, 1, "")
	answers(t, "With nothing", err, api.OK)
	holds(t, "With nothing", q, "a", "", "c")
}

func TestPutLaysAnItemAheadOfAnother(t *testing.T) {
	p := api.Page{LSN: 8, Kind: 3, Level: 2, Right: 9, High: "h", Items: []string{"a", "b"}}
	for i, want := range [][]string{{"x", "a", "b"}, {"a", "x", "b"}, {"a", "b", "x"}} {
		q, err := page.Put(p, i, "x")
		answers(t, "Put", err, api.OK)
		if w := (api.Page{LSN: 8, Kind: 3, Level: 2, Right: 9, High: "h", Items: want}); !page.Same(q, w) {
			t.Errorf("Put(%d): %+v", i, q)
		}
	}
	q, err := page.Put(heap(), 0, "")
	answers(t, "Put of nothing", err, api.OK)
	holds(t, "Put of nothing", q, "")
}

func TestPutExample(t *testing.T) {
	p, err := page.Put(heap(), 0, "ab")
	answers(t, "Put", err, api.OK)
	if page.Size(p) != 24 || page.Room(p) != 486 {
		t.Errorf("Size %d, Room %d", page.Size(p), page.Room(p))
	}
}

func TestOutTakesAnItemAway(t *testing.T) {
	p := api.Page{LSN: 8, Kind: 3, Level: 2, Right: 9, High: "h", Items: []string{"a", "b", "c"}}
	for i, want := range [][]string{{"b", "c"}, {"a", "c"}, {"a", "b"}} {
		q, err := page.Out(p, i)
		answers(t, "Out", err, api.OK)
		if w := (api.Page{LSN: 8, Kind: 3, Level: 2, Right: 9, High: "h", Items: want}); !page.Same(q, w) {
			t.Errorf("Out(%d): %+v", i, q)
		}
	}
	q, err := page.Out(heap("a"), 0)
	answers(t, "Out of the last", err, api.OK)
	holds(t, "Out of the last", q)
}

func TestPlacesThatAreNotThere(t *testing.T) {
	wrong := []int{-1, -2, math.MinInt, 4, 300, math.MaxInt}
	p := heap("a", "b", "c")
	for _, i := range append(wrong, 3) {
		q, err := page.With(p, i, "x")
		refuses(t, "With", q, err, api.ErrArg)
		q, err = page.Out(p, i)
		refuses(t, "Out", q, err, api.ErrArg)
	}
	for _, i := range wrong {
		q, err := page.Put(p, i, "x")
		refuses(t, "Put", q, err, api.ErrArg)
	}
	q, err := page.With(heap(), 0, "x")
	refuses(t, "With of no items", q, err, api.ErrArg)
	q, err = page.Out(heap(), 0)
	refuses(t, "Out of no items", q, err, api.ErrArg)
	q, err = page.Put(heap(), 1, "x")
	refuses(t, "Put of no items", q, err, api.ErrArg)
}

func TestAWrongPlaceIsNamedAheadOfTheLength(t *testing.T) {
	q, err := page.With(heap("a"), 1, long(600))
	refuses(t, "With", q, err, api.ErrArg)
	q, err = page.Put(heap("a"), 2, long(600))
	refuses(t, "Put", q, err, api.ErrArg)
	q, err = page.Put(heap(blanks(300)...), -1, "")
	refuses(t, "Put", q, err, api.ErrArg)
}

func TestWithAndPutRefuseWhatIsTooLong(t *testing.T) {
	for _, c := range []struct {
		p    api.Page
		item int // how many bytes
		want api.Errno
	}{
		{heap("ab", "c"), 487, api.OK},
		{heap("ab", "c"), 488, api.ErrLong},
		{heap("ab", "c"), 70000, api.ErrLong},
		{heap(long(490)), 490, api.OK},
		{heap(long(490)), 491, api.ErrLong},
		{heap(long(600)), 490, api.OK},
		{heap("", long(600)), 0, api.ErrLong},
		{heap(blanks(246)...), 0, api.OK},
		{heap(blanks(246)...), 1, api.ErrLong},
		{heap(blanks(255)...), 0, api.ErrLong},
		{heap(blanks(256)...), 0, api.ErrLong},
		{api.Page{High: long(256), Items: []string{"a"}}, 234, api.OK},
		{api.Page{High: long(256), Items: []string{"a"}}, 235, api.ErrLong},
	} {
		q, err := page.With(c.p, 0, long(c.item))
		answers(t, "With", err, c.want)
		if err != api.OK {
			refuses(t, "With", q, err, c.want)
		} else if q.Items[0] != long(c.item) {
			t.Errorf("With: %q", q.Items[0])
		}
	}
	for _, c := range []struct {
		p    api.Page
		item int
		want api.Errno
	}{
		{heap(), 490, api.OK},
		{heap(), 491, api.ErrLong},
		{heap("ab"), 486, api.OK},
		{heap("ab"), 487, api.ErrLong},
		{heap(long(489)), 0, api.ErrLong},
		{heap(blanks(245)...), 0, api.OK},
		{heap(blanks(246)...), 0, api.ErrLong},
		{heap(blanks(255)...), 0, api.ErrLong},
		{api.Page{High: long(256)}, 234, api.OK},
		{api.Page{High: long(256)}, 235, api.ErrLong},
	} {
		q, err := page.Put(c.p, len(c.p.Items), long(c.item))
		answers(t, "Put", err, c.want)
		if err != api.OK {
			refuses(t, "Put", q, err, c.want)
		}
	}
}

func TestChangesAskNothingElseOfThePage(t *testing.T) {
	p := api.Page{LSN: -1, Kind: 99, Level: -7, Right: math.MinInt, High: "h", Items: []string{"a"}}
	q, err := page.Put(p, 0, "x")
	answers(t, "Put", err, api.OK)
	if !page.Same(q, api.Page{LSN: -1, Kind: 99, Level: -7, Right: math.MinInt, High: "h", Items: []string{"x", "a"}}) {
		t.Errorf("%+v", q)
	}
	q, err = page.With(p, 0, "x")
	answers(t, "With", err, api.OK)
	if !page.Same(q, api.Page{LSN: -1, Kind: 99, Level: -7, Right: math.MinInt, High: "h", Items: []string{"x"}}) {
		t.Errorf("%+v", q)
	}
}

func TestOutIsNotRefusedForTheLength(t *testing.T) {
	q, err := page.Out(heap(blanks(300)...), 299)
	answers(t, "Out of 300 items", err, api.OK)
	holds(t, "Out of 300 items", q, blanks(299)...)
	q, err = page.Out(heap(long(600), long(700)), 1)
	answers(t, "Out of long items", err, api.OK)
	holds(t, "Out of long items", q, long(600))
}

// P3.5

func TestSameLooksAtEachField(t *testing.T) {
	a := api.Page{LSN: 1, Kind: 3, Level: 2, Right: 4, High: "h", Items: []string{"a", "b"}}
	for _, change := range []func(p *api.Page){
		func(p *api.Page) { p.LSN++ },
		func(p *api.Page) { p.Kind-- },
		func(p *api.Page) { p.Level++ },
		func(p *api.Page) { p.Right++ },
		func(p *api.Page) { p.High = "i" },
		func(p *api.Page) { p.High = "" },
		func(p *api.Page) { p.Items = []string{"a", "c"} },
		func(p *api.Page) { p.Items = []string{"c", "b"} },
		func(p *api.Page) { p.Items = []string{"b", "a"} },
		func(p *api.Page) { p.Items = []string{"a"} },
		func(p *api.Page) { p.Items = []string{"a", "b", ""} },
		func(p *api.Page) { p.Items = []string{"ab"} },
		func(p *api.Page) { p.Items = nil },
	} {
		b := a
		change(&b)
		if page.Same(a, b) || page.Same(b, a) {
			t.Errorf("%+v is the same as %+v", a, b)
		}
	}
	b := a
	b.Items = slices.Clone(a.Items)
	if !page.Same(a, b) || !page.Same(a, a) {
		t.Errorf("%+v is not the same as %+v", a, b)
	}
}

func TestSameHoldsForPagesThatCanNotBeEncoded(t *testing.T) {
	a := api.Page{LSN: -1, Kind: 77, Items: blanks(300)}
	b := api.Page{LSN: -1, Kind: 77, Items: blanks(300)}
	if !page.Same(a, b) || !page.Same(api.Page{}, api.Page{Items: []string{}}) || page.Same(a, api.Page{}) {
		t.Error("Same")
	}
}

// P3.6

func TestDecodeOfEncodeIsThePage(t *testing.T) {
	for _, p := range samples() {
		q, err := page.Decode(encoded(t, p))
		answers(t, "Decode", err, api.OK)
		if !page.Same(p, q) {
			t.Errorf("%+v, want %+v", q, p)
		}
	}
}

// Each byte of a page is changed in each way, with the sum put right: what is taken all the same must come out again.
func TestEncodeOfWhatDecodeTakesIsTheBytes(t *testing.T) {
	data := encoded(t, api.Page{LSN: 1, Kind: 3, Level: 1, Right: 2, High: "h", Items: []string{"abc", "", "d"}})
	taken := 0
	for _, at := range []int{4, 5, 11, 12, 13, 14, 17, 18, 19, 20, 21, 22, 23, 26, 27, 28, 29, 30, 31, 32, 511} {
		for b := range 256 {
			changed := laid(data, at, string([]byte{byte(b)}))
			p, err := page.Decode(changed)
			if err != api.OK {
				refuses(t, "Decode", p, err, api.ErrBody)
				continue
			}
			taken++
			if encoded(t, p) != changed {
				t.Errorf("byte %d of %d: other bytes", b, at)
			}
		}
	}
	if taken < 2000 {
		t.Errorf("only %d were taken", taken)
	}
}

// backed is a list with room behind its length, so that an append would be seen there.
func backed(items ...string) []string {
	return append(make([]string, 0, len(items)+4), items...)
}

func TestNoPageSharesItsListWithTheOneHandedIn(t *testing.T) {
	for what, change := range map[string]func(p api.Page) (api.Page, api.Errno){
		"With":        func(p api.Page) (api.Page, api.Errno) { return page.With(p, 1, "x") },
		"With a long": func(p api.Page) (api.Page, api.Errno) { return page.With(p, 1, long(600)) },
		"Put first":   func(p api.Page) (api.Page, api.Errno) { return page.Put(p, 0, "x") },
		"Put last":    func(p api.Page) (api.Page, api.Errno) { return page.Put(p, 3, "x") },
		"Put a long":  func(p api.Page) (api.Page, api.Errno) { return page.Put(p, 1, long(600)) },
		"Out first":   func(p api.Page) (api.Page, api.Errno) { return page.Out(p, 0) },
		"Out last":    func(p api.Page) (api.Page, api.Errno) { return page.Out(p, 2) },
	} {
		p := heap(backed("a", "b", "c")...)
		q, _ := change(p)
		for i := range q.Items {
			q.Items[i] = "written"
		}
		_ = append(q.Items, "behind")
		holds(t, what, p, "a", "b", "c")
		if behind := p.Items[3:cap(p.Items)]; !slices.Equal(behind, blanks(len(behind))) {
			t.Errorf("%s: behind the list stand %q", what, behind)
		}

		r, _ := change(p)
		before := slices.Clone(r.Items)
		for i := range p.Items {
			p.Items[i] = "changed"
		}
		holds(t, what+", the page handed in was changed", r, before...)
	}
}

func TestAnswersAreApart(t *testing.T) {
	data := encoded(t, heap("a", "b"))
	p, _ := page.Decode(data)
	q, _ := page.Decode(data)
	p.Items[0] = "changed"
	_ = append(p.Items, "more")
	holds(t, "Decode", q, "a", "b")
	holds(t, "Decode", p, "changed", "b")

	x, _ := page.Put(q, 0, "x")
	y, _ := page.Put(q, 0, "x")
	x.Items[1] = "changed"
	holds(t, "Put", y, "x", "a", "b")
}

func TestPutAndThenOutIsThePage(t *testing.T) {
	for _, p := range samples() {
		if page.Room(p) < 1 {
			continue
		}
		for i := range len(p.Items) + 1 {
			q, err := page.Put(p, i, "x")
			answers(t, "Put", err, api.OK)
			r, err := page.Out(q, i)
			answers(t, "Out", err, api.OK)
			if !page.Same(p, r) || q.Items[i] != "x" || len(q.Items) != len(p.Items)+1 {
				t.Errorf("place %d: %+v, then %+v", i, q, r)
			}
		}
	}
}

func TestRoomIsWhatPutTakes(t *testing.T) {
	pages := append(samples(), heap(blanks(255)...), heap(blanks(254)...), heap(long(600)))
	for n := 480; n <= 492; n++ {
		pages = append(pages, heap(long(n)), api.Page{Kind: 3, High: long(n / 2), Items: []string{long(n - n/2)}})
	}
	for _, p := range pages {
		room := page.Room(p)
		if room >= 0 {
			q, err := page.Put(p, 0, long(room))
			answers(t, "Put of as much as there is room", err, api.OK)
			if page.Size(q) != api.PageSize {
				t.Errorf("Size %d with all the room taken", page.Size(q))
			}
		}
		q, err := page.Put(p, 0, long(room+1))
		refuses(t, "Put of a byte more", q, err, api.ErrLong)
	}
}
