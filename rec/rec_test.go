package rec_test

import (
	"math"
	"slices"
	"strings"
	"testing"

	"almonry/api"
	"almonry/bits"
	"almonry/page"
	"almonry/rec"
)

const most = 1 << 62

func long(n int) string { return strings.Repeat("x", n) }

func heap(items ...string) api.Page { return api.Page{LSN: 5, Kind: api.HeapPage, Items: items} }

// small is a record of which Check finds nothing wrong; the tests change what they are about.
func small() api.Record { return api.Record{LSN: 1, Kind: api.RolledBack, Page: 1} }

// full is a record with something in each field, no two of its numbers alike, and numbers of two sevens among them.
func full() api.Record {
	return api.Record{
		LSN: 300, Prev: 7, Next: 8, Kind: api.Check, Xid: 9, Page: 2, Slot: 3, Old: 4, New: 5, Redo: 6,
		Data: "ab", Slots: []int{1, 301}, More: []int{10, 0, 11},
		Images: []api.Image{{Page: 14, Body: heap("x", "")}, {Page: 302, Body: api.Page{LSN: 1, Kind: 3, Level: 1, Right: 16, High: "h"}}},
		Pages:  []api.Owed{{Page: 17, LSN: 18}, {Page: 303, LSN: 20}},
		Txns:   []api.Begun{{Xid: 21, Last: 22}, {Xid: 23, Last: 304}, {}},
	}
}

// wide is the least number of so many sevens.
func wide(sevens int) int {
	if sevens == 1 {
		return 0
	}
	return 1 << (7 * (sevens - 1))
}

// ofBody is a record whose body has so many bytes, more than some 50000.
func ofBody(size int) api.Record {
	r := api.Record{LSN: 1, Kind: api.Check}
	left := size - 17 // sixteen numbers, of which that of Pages has two sevens
	for left > 18+17 {
		r.Pages = append(r.Pages, api.Owed{Page: most, LSN: most})
		left -= 18
	}
	for left > 0 {
		some := min(left, 18)
		if left > 18 && left < 20 {
			some = left - 2
		}
		r.Pages = append(r.Pages, api.Owed{Page: wide((some + 1) / 2), LSN: wide(some / 2)})
		left -= some
	}
	return r
}

func samples() []api.Record {
	rs := []api.Record{
		small(),
		full(),
		{LSN: most, Prev: most, Next: most, Kind: api.Make, Xid: most, Page: most, Slot: most, Old: most, New: most, Redo: most},
		{LSN: 1, Kind: api.Insert, Data: strings.Repeat("\x00", 512)},
		{LSN: 1, Kind: api.Insert, Data: "\xff\x80\x00"},
		{LSN: 1, Kind: api.Freeze, Slots: make([]int, 255), More: make([]int, 255)},
		{LSN: 1, Kind: api.Clean, Slots: []int{most, 0, 127, 128, 127}, More: []int{}},
		{LSN: 1, Kind: api.Split, Images: []api.Image{{Body: heap()}, {Page: most, Body: heap(long(490))}, {Body: heap("\x00", "\x00\x00")}, {Body: heap("", "a\x00")}}},
		{LSN: 1, Kind: api.Make, Images: []api.Image{{Page: 1, Body: api.Page{LSN: math.MaxInt, Kind: 3, Level: 255, Right: math.MaxUint32, High: long(255)}}}},
		{LSN: 1, Kind: api.Check, Pages: make([]api.Owed, 8192), Txns: make([]api.Begun, 1024)},
		{LSN: 1, Kind: api.Check, Pages: []api.Owed{{Page: most, LSN: most}}, Txns: []api.Begun{{Xid: most, Last: most}}},
		ofBody(65535),
	}
	for kind := api.Insert; kind <= api.Make; kind++ {
		rs = append(rs, api.Record{LSN: 127 + int(kind), Kind: kind})
	}
	return rs
}

func answers(t *testing.T, what string, got, want api.Errno) {
	t.Helper()
	if got != want {
		t.Errorf("%s: %v, want %v", what, got, want)
	}
}

// checks asks Check, and Encode with it, for an answer.
func checks(t *testing.T, what string, r api.Record, want api.Errno) {
	t.Helper()
	answers(t, "Check of "+what, rec.Check(r), want)
	data, err := rec.Encode(r)
	answers(t, "Encode of "+what, err, want)
	if (err != api.OK) != (data == "") {
		t.Errorf("Encode of %s: %d bytes beside %v", what, len(data), err)
	}
}

func encoded(t *testing.T, r api.Record) string {
	t.Helper()
	data, err := rec.Encode(r)
	if err != api.OK {
		t.Fatalf("Encode(%+v): %v", r, err)
	}
	return data
}

// framed is a body with its length and its sum ahead of it.
func framed(body string) string {
	return bits.Big(len(body), 4) + bits.Big(int(bits.Sum(body)), 4) + body
}

func refuses(t *testing.T, what, data string, want api.Errno) {
	t.Helper()
	r, n, err := rec.Decode(data)
	answers(t, "Decode of "+what, err, want)
	if n != 0 || !rec.Same(r, api.Record{}) {
		t.Errorf("Decode of %s: %+v, %d beside an error", what, r, n)
	}
}

func takes(t *testing.T, what, data string, want api.Record, size int) {
	t.Helper()
	r, n, err := rec.Decode(data)
	answers(t, "Decode of "+what, err, api.OK)
	if n != size || !rec.Same(r, want) {
		t.Errorf("Decode of %s: %+v, %d, want %+v, %d", what, r, n, want, size)
	}
}

// P4.1

func TestCheckAsksForAKind(t *testing.T) {
	for kind := range 256 {
		r := small()
		r.Kind = api.Kind(kind)
		want := api.ErrKind
		if kind >= 1 && kind <= 13 {
			want = api.OK
		}
		checks(t, "kind", r, want)
	}
}

// numbers are the numbers of a record that Check has bounds for.
func numbers(r *api.Record) map[string]*int {
	return map[string]*int{
		"LSN": &r.LSN, "Prev": &r.Prev, "Next": &r.Next, "Xid": &r.Xid, "Page": &r.Page,
		"Slot": &r.Slot, "Old": &r.Old, "New": &r.New, "Redo": &r.Redo,
		"Slots first": &r.Slots[0], "Slots last": &r.Slots[1],
		"More first": &r.More[0], "More last": &r.More[2],
		"Images first": &r.Images[0].Page, "Images last": &r.Images[1].Page,
		"Pages first": &r.Pages[0].Page, "Pages last": &r.Pages[1].Page,
		"Pages first LSN": &r.Pages[0].LSN, "Pages last LSN": &r.Pages[1].LSN,
		"Txns first": &r.Txns[0].Xid, "Txns last": &r.Txns[2].Xid,
		"Txns first Last": &r.Txns[0].Last, "Txns last Last": &r.Txns[2].Last,
	}
}

func TestCheckAsksForNumbersWithinBounds(t *testing.T) {
	kept := full()
	for name := range numbers(&kept) {
		for n, want := range map[int]api.Errno{
			math.MinInt: api.ErrRange, -1: api.ErrRange, 0: api.OK, 1: api.OK,
			most - 1: api.OK, most: api.OK, most + 1: api.ErrRange, math.MaxInt: api.ErrRange,
		} {
			if name == "LSN" && n == 0 {
				want = api.ErrRange
			}
			r := full()
			*numbers(&r)[name] = n
			checks(t, name, r, want)
		}
	}
}

func TestCheckAsksForShortLists(t *testing.T) {
	body := heap("x")
	for _, c := range []struct {
		what string
		make func(r *api.Record, n int)
		most int
	}{
		{"Data", func(r *api.Record, n int) { r.Data = long(n) }, 512},
		{"Slots", func(r *api.Record, n int) { r.Slots = make([]int, n) }, 255},
		{"More", func(r *api.Record, n int) { r.More = make([]int, n) }, 255},
		{"Images", func(r *api.Record, n int) { r.Images = slices.Repeat([]api.Image{{Body: body}}, n) }, 4},
		{"Pages", func(r *api.Record, n int) { r.Pages = make([]api.Owed, n) }, 8192},
		{"Txns", func(r *api.Record, n int) { r.Txns = make([]api.Begun, n) }, 1024},
	} {
		for n, want := range map[int]api.Errno{
			0: api.OK, 1: api.OK, c.most - 1: api.OK, c.most: api.OK,
			c.most + 1: api.ErrLong, c.most + 2: api.ErrLong, c.most + 256: api.ErrLong, 70000: api.ErrLong,
		} {
			r := small()
			c.make(&r, n)
			checks(t, c.what, r, want)
		}
	}
}

func TestCheckAnswersTheErrorOfTheFirstWrongImage(t *testing.T) {
	good := api.Image{Body: heap("x")}
	noKind := api.Image{Body: api.Page{LSN: 1}}
	tooLong := api.Image{Body: heap(long(491))}
	for _, c := range []struct {
		images []api.Image
		want   api.Errno
	}{
		{[]api.Image{good, good, good, good}, api.OK},
		{[]api.Image{{Body: heap(long(490))}}, api.OK},
		{[]api.Image{{}}, api.ErrRange},
		{[]api.Image{noKind}, api.ErrRange},
		{[]api.Image{tooLong}, api.ErrLong},
		{[]api.Image{good, good, good, noKind}, api.ErrRange},
		{[]api.Image{good, good, good, tooLong}, api.ErrLong},
		{[]api.Image{good, noKind, tooLong}, api.ErrRange},
		{[]api.Image{good, tooLong, noKind}, api.ErrLong},
		{[]api.Image{{Body: api.Page{Kind: 4}}}, api.ErrRange},
		{[]api.Image{{Body: api.Page{Kind: 2, LSN: -1}}}, api.ErrRange},
		{[]api.Image{{Body: api.Page{Kind: 2, LSN: most + 1}}}, api.OK},
		{[]api.Image{{Body: api.Page{Kind: 2, High: long(256)}}}, api.ErrLong},
	} {
		r := small()
		r.Images = c.images
		checks(t, "images", r, c.want)
	}
}

func TestCheckAsksForAShortBody(t *testing.T) {
	for size, want := range map[int]api.Errno{
		60000: api.OK, 65500: api.OK, 65534: api.OK, 65535: api.OK, 65536: api.ErrLong, 65537: api.ErrLong, 70000: api.ErrLong,
	} {
		r := ofBody(size)
		if len(r.Pages) > 8192 {
			t.Fatalf("%d pages", len(r.Pages))
		}
		checks(t, "a long body", r, want)
		if data, err := rec.Encode(r); err == api.OK && len(data) != 8+size {
			t.Fatalf("%d bytes, want %d", len(data), 8+size)
		}
	}
	r := api.Record{LSN: 1, Kind: api.Check, Pages: slices.Repeat([]api.Owed{{Page: most, LSN: most}}, 8192)}
	checks(t, "a body of many pages", r, api.ErrLong)
}

func TestTheErrorNamedFirstIsAnswered(t *testing.T) {
	r := ofBody(70000)
	r.Images = []api.Image{{}}
	checks(t, "an image ahead of a long body", r, api.ErrRange)
	r.Images = []api.Image{{Body: heap("x")}}
	checks(t, "a long body alone", r, api.ErrLong)

	r = small()
	r.Images = []api.Image{{}, {}, {}, {}, {}}
	checks(t, "five images ahead of what is wrong with them", r, api.ErrLong)
	r.Images[4].Page = -1
	checks(t, "an image's number ahead of how many there are", r, api.ErrRange)

	for name, change := range map[string]func(r *api.Record){
		"Data":          func(r *api.Record) { r.Data = long(513) },
		"Slots":         func(r *api.Record) { r.Slots = make([]int, 256) },
		"More":          func(r *api.Record) { r.More = make([]int, 256) },
		"Pages":         func(r *api.Record) { r.Pages = make([]api.Owed, 8193) },
		"Txns":          func(r *api.Record) { r.Txns = make([]api.Begun, 1025) },
		"a long image":  func(r *api.Record) { r.Images = []api.Image{{Body: heap(long(491))}} },
		"a wrong image": func(r *api.Record) { r.Images = []api.Image{{}} },
	} {
		r := small()
		change(&r)
		r.Redo = -1
		checks(t, "a number ahead of "+name, r, api.ErrRange)
		r.Kind = 0
		checks(t, "the kind ahead of all, with "+name, r, api.ErrKind)
	}

	for what, change := range map[string]func(r *api.Record){
		"Slots": func(r *api.Record) { r.Slots = append(make([]int, 300), -1) },
		"More":  func(r *api.Record) { r.More = append(make([]int, 300), most+1) },
		"Pages": func(r *api.Record) { r.Pages = append(make([]api.Owed, 9000), api.Owed{LSN: -1}) },
		"Txns":  func(r *api.Record) { r.Txns = append(make([]api.Begun, 2000), api.Begun{Last: -1}) },
	} {
		r := small()
		change(&r)
		checks(t, "a number behind the limit of "+what, r, api.ErrRange)
	}
}

func TestCheckExamples(t *testing.T) {
	checks(t, "nothing", api.Record{}, api.ErrKind)
	checks(t, "Kind 0", api.Record{LSN: 1}, api.ErrKind)
	checks(t, "LSN 0", api.Record{Kind: api.Insert}, api.ErrRange)
	checks(t, "Prev -1", api.Record{Kind: api.Insert, LSN: 1, Prev: -1}, api.ErrRange)
	checks(t, "Data of 513 bytes", api.Record{Kind: api.Insert, LSN: 1, Data: long(513)}, api.ErrLong)
}

// P4.2

func TestEncodeExample(t *testing.T) {
	body := "\x01\x00\x00\x08\x00\x01" + strings.Repeat("\x00", 10)
	want := "\x00\x00\x00\x10" + bits.Big(int(bits.Sum(body)), 4) + body
	if got := encoded(t, small()); got != want || len(got) != 24 {
		t.Errorf("% X, want % X", got, want)
	}
}

func TestEncodeLaysEachField(t *testing.T) {
	trimmed := func(p api.Page) string {
		data, err := page.Encode(p)
		answers(t, "page.Encode", err, api.OK)
		for strings.HasSuffix(data, "\x00") {
			data = data[:len(data)-1]
		}
		return string([]byte{byte(len(data))}) + data
	}
	r := full()
	body := "\xac\x02\x07\x08\x0c\x09\x02\x03\x04\x05\x06" +
		"\x02ab" +
		"\x02\x01\xad\x02" +
		"\x03\x0a\x00\x0b" +
		"\x02\x0e" + trimmed(r.Images[0].Body) + "\xae\x02" + trimmed(r.Images[1].Body) +
		"\x02\x11\x12\xaf\x02\x14" +
		"\x03\x15\x16\x17\xb0\x02\x00\x00"
	if got := encoded(t, r); got != framed(body) {
		t.Errorf("% X, want % X", got, framed(body))
	}
}

func TestEncodeLaysTheHighestByteOfTheLengthFirst(t *testing.T) {
	r := small()
	r.Data = long(512)
	data := encoded(t, r)
	// The length of Data takes a second byte.
	if want := "\x00\x00\x02\x11" + bits.Big(int(bits.Sum(data[8:])), 4); data[:8] != want || len(data) != 8+0x211 {
		t.Errorf("% X, want % X", data[:8], want)
	}
}

func TestEncodeLeavesTheZerosOfAnImageOut(t *testing.T) {
	for _, c := range []struct {
		body api.Page
		size int // how many bytes of the page are laid
	}{
		{api.Page{Kind: 2}, 13},
		{api.Page{Kind: 2, Level: 1}, 14},
		{heap(""), 19},
		{heap("x"), 23},
		{heap("x\x00\x00"), 23},
		{heap("x", ""), 23},
		{heap("", "x"), 25},
		{heap("x", "\x00"), 25},
		{heap(long(490)), 512},
		{heap(long(489) + "\x00"), 511},
	} {
		r := small()
		bare := len(encoded(t, r))
		r.Images = []api.Image{{Page: 1, Body: c.body}}
		head := 2
		if c.size > 127 {
			head = 3
		}
		if got := len(encoded(t, r)) - bare; got != head+c.size {
			t.Errorf("an image of %q took %d bytes, want %d", c.body.Items, got, head+c.size)
		}
	}
}

// P4.3

func TestDecodeOfTooFewBytes(t *testing.T) {
	for n := range 8 {
		refuses(t, "few bytes 00", strings.Repeat("\x00", n), api.ErrWhole)
		refuses(t, "few bytes FF", strings.Repeat("\xff", n), api.ErrWhole)
		refuses(t, "few bytes of a record", encoded(t, full())[:n], api.ErrWhole)
	}
}

func TestDecodeOfALengthThatMayNotBe(t *testing.T) {
	behind := strings.Repeat("\x00", 70000)
	for _, length := range []int{0, 65536, 65537, 70000, 1 << 24, math.MaxInt32, math.MaxUint32} {
		head := bits.Big(length, 4)
		refuses(t, "a head alone", head+"\x00\x00\x00\x00", api.ErrKind)
		refuses(t, "all its bytes", head+"\x00\x00\x00\x00"+behind, api.ErrKind)
		refuses(t, "another sum", head+"\x12\x34\x56\x78"+behind, api.ErrKind)
	}
	body := strings.Repeat("\x00", 65536)
	refuses(t, "a long body with its sum", framed(body), api.ErrKind)
	refuses(t, "8 bytes 00", strings.Repeat("\x00", 8), api.ErrKind)
	refuses(t, "no body, with its sum", framed(""), api.ErrKind)
}

func TestDecodeOfFewerBytesThanTheLength(t *testing.T) {
	for _, length := range []int{1, 2, 255, 256, 65534, 65535} {
		head := bits.Big(length, 4) + "\x12\x34\x56\x78"
		refuses(t, "a head alone", head, api.ErrWhole)
		refuses(t, "a byte too few", head+strings.Repeat("\x01", length-1), api.ErrWhole)
		refuses(t, "as many, but of another sum", head+strings.Repeat("\x01", length), api.ErrSum)
	}
}

func TestDecodeOfAnotherSum(t *testing.T) {
	data := encoded(t, full())
	for i := 4; i < len(data); i++ {
		for bit := range 8 {
			changed := []byte(data)
			changed[i] ^= 1 << bit
			refuses(t, "a changed byte", string(changed), api.ErrSum)
			if t.Failed() {
				return
			}
		}
	}
}

func TestDecodeLooksAtTheSumAheadOfTheBody(t *testing.T) {
	bad := framed("\x80\x00")
	refuses(t, "no body, its sum right", bad, api.ErrKind)
	refuses(t, "no body, its sum wrong", bad[:7]+string([]byte{bad[7] ^ 1})+bad[8:], api.ErrSum)
}

// nums is numbers as a body has them.
func nums(ns ...int) string {
	w := bits.New()
	w.Num(ns...)
	return w.Bytes()
}

func text(s string) string { return nums(len(s)) + s }

func TestDecodeOfBodiesThatAreNoRecords(t *testing.T) {
	one := "\x01"
	head := "\x01\x00\x00\x08\x00\x01\x00\x00\x00\x00" // the ten numbers of small
	zeros := func(n int) string { return strings.Repeat("\x00", n) }
	takes(t, "that one", framed(head+zeros(6)), small(), 24)

	for what, body := range map[string]string{
		"LSN 0":                  zeros(3) + "\x08" + zeros(12),
		"LSN above the most":     nums(most+1, 0, 0, 8) + zeros(12),
		"LSN of ten sevens":      strings.Repeat("\xff", 9) + one + "\x00\x00\x08" + zeros(12),
		"LSN with a zero behind": "\x81\x00\x00\x00\x08" + zeros(12),
		"Prev above the most":    one + nums(most+1, 0, 8) + zeros(12),
		"Next above the most":    one + nums(0, most+1, 8) + zeros(12),
		"Kind 0":                 "\x01\x00\x00\x00" + zeros(12),
		"Kind 14":                "\x01\x00\x00\x0e" + zeros(12),
		"Kind 256 and 8":         "\x01\x00\x00" + nums(264) + zeros(12),
		"Kind of many sevens":    "\x01\x00\x00" + nums(1<<40+8) + zeros(12),
		"Xid above the most":     "\x01\x00\x00\x08" + nums(most+1) + zeros(11),
		"Page above the most":    "\x01\x00\x00\x08" + zeros(1) + nums(most+1) + zeros(10),
		"Slot above the most":    "\x01\x00\x00\x08" + zeros(2) + nums(most+1) + zeros(9),
		"Old above the most":     "\x01\x00\x00\x08" + zeros(3) + nums(most+1) + zeros(8),
		"New above the most":     "\x01\x00\x00\x08" + zeros(4) + nums(most+1) + zeros(7),
		"Redo above the most":    "\x01\x00\x00\x08" + zeros(5) + nums(math.MaxInt) + zeros(6),
		"Data too long":          head + text(long(513)) + zeros(5),
		"Data with no bytes":     head + "\x01",
		"a slot above the most":  head + "\x00\x01" + nums(most+1) + zeros(4),
		"too many Slots":         head + "\x00" + nums(256) + zeros(256) + zeros(4),
		"fewer Slots":            head + "\x00\x05\x00\x00\x00\x00",
		"a More above the most":  head + "\x00\x00\x01" + nums(most+1) + zeros(3),
		"too many More":          head + "\x00\x00" + nums(256) + zeros(256) + zeros(3),
		"Pages above the most":   head + zeros(4) + "\x01" + nums(most+1, 0) + zeros(1),
		"Pages LSN too great":    head + zeros(4) + "\x01" + nums(0, most+1) + zeros(1),
		"too many Pages":         head + zeros(4) + nums(8193) + zeros(2*8193) + zeros(1),
		"many Pages of nothing":  head + zeros(4) + nums(8192),
		"half of a Pages":        head + zeros(4) + "\x01\x01",
		"Txns above the most":    head + zeros(5) + "\x01" + nums(most+1, 0),
		"Txns Last too great":    head + zeros(5) + "\x01" + nums(0, most+1),
		"too many Txns":          head + zeros(5) + nums(1025) + zeros(2*1025),
		"half of a Txns":         head + zeros(5) + "\x01\x01",
		"a byte more":            head + zeros(7),
		"bytes FF":               strings.Repeat("\xff", 16),
		"one byte":               "\x01",
		"a count of two ways":    head + "\x00\x80\x00\x00\x00\x00\x00",
	} {
		refuses(t, what, framed(body), api.ErrKind)
	}
	for n := 1; n < 16; n++ {
		refuses(t, "a body cut off", framed((head + zeros(6))[:n]), api.ErrKind)
	}
}

func TestDecodeTakesTheGreatestNumbersAndLists(t *testing.T) {
	body := nums(most, most, most, 13, most, most, most, most, most, most) + strings.Repeat("\x00", 6)
	takes(t, "the greatest numbers", framed(body), samples()[2], 8+len(body))
	for _, r := range samples() {
		data := encoded(t, r)
		takes(t, "a sample", data, r, len(data))
	}
}

func TestDecodeOfImages(t *testing.T) {
	around := func(images string) string {
		return framed("\x01\x00\x00\x08\x00\x01\x00\x00\x00\x00\x00\x00\x00" + images + "\x00\x00")
	}
	whole, err := page.Encode(heap("x"))
	answers(t, "page.Encode", err, api.OK)
	laid := whole[:23]
	fat, err := page.Encode(heap(long(490)))
	answers(t, "page.Encode", err, api.OK)

	want := small()
	want.Images = []api.Image{{Page: 7, Body: heap("x")}}
	data := around("\x01\x07" + text(laid))
	takes(t, "an image", data, want, len(data))
	want.Images = slices.Repeat([]api.Image{{Page: most, Body: heap(long(490))}}, 4)
	data = around("\x04" + strings.Repeat(nums(most)+text(fat), 4))
	takes(t, "four whole images", data, want, len(data))

	for what, images := range map[string]string{
		"a zero at its end":       "\x01\x07" + text(laid+"\x00"),
		"all its zeros":           "\x01\x07" + text(whole),
		"more zeros than a page":  "\x01\x07" + text(whole+"\x00"),
		"a byte too few":          "\x01\x07" + text(laid[:22]),
		"another sum":             "\x01\x07" + text("\x00"+laid[1:]),
		"no bytes":                "\x01\x07\x00",
		"513 bytes":               "\x01\x07" + text(fat+"x"),
		"fewer than it says":      "\x01\x07\x7f" + laid,
		"no page":                 "\x01\x07" + text(bits.Big(int(bits.Sum(strings.Repeat("\x00", 508))), 4)),
		"Page above the most":     "\x01" + nums(most+1) + text(laid),
		"five of them":            "\x05" + strings.Repeat("\x07"+text(laid), 5),
		"a second one wrong":      "\x02\x07" + text(laid) + "\x07" + text(laid+"\x00"),
		"a first one wrong":       "\x02\x07" + text(laid+"\x00") + "\x07" + text(laid),
		"a second one that isn't": "\x02\x07" + text(laid),
	} {
		refuses(t, "an image of "+what, around(images), api.ErrKind)
	}
}

// P4.4

func TestSameLooksAtEachNumber(t *testing.T) {
	a := full()
	for name := range numbers(&a) {
		b := full()
		*numbers(&b)[name]++
		if rec.Same(a, b) || rec.Same(b, a) {
			t.Errorf("%s does not matter", name)
		}
	}
}

func TestSameLooksAtEachOtherField(t *testing.T) {
	a := full()
	for what, change := range map[string]func(r *api.Record){
		"Kind":             func(r *api.Record) { r.Kind++ },
		"Data":             func(r *api.Record) { r.Data = "aB" },
		"longer Data":      func(r *api.Record) { r.Data = "ab\x00" },
		"fewer Slots":      func(r *api.Record) { r.Slots = r.Slots[:1] },
		"more Slots":       func(r *api.Record) { r.Slots = append(r.Slots, 0) },
		"turned Slots":     func(r *api.Record) { slices.Reverse(r.Slots) },
		"fewer More":       func(r *api.Record) { r.More = nil },
		"more More":        func(r *api.Record) { r.More = append(r.More, 0) },
		"lists exchanged":  func(r *api.Record) { r.Slots, r.More = r.More, r.Slots },
		"fewer Images":     func(r *api.Record) { r.Images = r.Images[:1] },
		"more Images":      func(r *api.Record) { r.Images = append(r.Images, api.Image{}) },
		"turned Images":    func(r *api.Record) { slices.Reverse(r.Images) },
		"an image's LSN":   func(r *api.Record) { r.Images[1].Body.LSN++ },
		"an image's Kind":  func(r *api.Record) { r.Images[0].Body.Kind++ },
		"an image's Level": func(r *api.Record) { r.Images[1].Body.Level++ },
		"an image's Right": func(r *api.Record) { r.Images[1].Body.Right++ },
		"an image's High":  func(r *api.Record) { r.Images[1].Body.High = "" },
		"an image's item":  func(r *api.Record) { r.Images[0].Body.Items[1] = "y" },
		"an image's items": func(r *api.Record) { r.Images[0].Body.Items = []string{"x"} },
		"fewer Pages":      func(r *api.Record) { r.Pages = r.Pages[1:] },
		"more Pages":       func(r *api.Record) { r.Pages = append(r.Pages, api.Owed{}) },
		"turned Pages":     func(r *api.Record) { slices.Reverse(r.Pages) },
		"fewer Txns":       func(r *api.Record) { r.Txns = r.Txns[:2] },
		"more Txns":        func(r *api.Record) { r.Txns = append(r.Txns, api.Begun{}) },
		"turned Txns":      func(r *api.Record) { slices.Reverse(r.Txns) },
	} {
		b := full()
		change(&b)
		if rec.Same(a, b) || rec.Same(b, a) {
			t.Errorf("%s: the same", what)
		}
	}
}

func TestSameOfWhatIsTheSame(t *testing.T) {
	for i, r := range samples() {
		if again := samples()[i]; !rec.Same(r, again) {
			t.Errorf("sample %d: not the same", i)
		}
	}
	for _, wrong := range []api.Record{{}, {LSN: -1, Kind: 200, Slots: []int{-1}}, {Images: []api.Image{{}}}, {Data: long(5000)}} {
		if !rec.Same(wrong, wrong) || rec.Same(wrong, small()) {
			t.Errorf("Same of %+v", wrong)
		}
	}
	empty := api.Record{Slots: []int{}, More: []int{}, Images: []api.Image{}, Pages: []api.Owed{}, Txns: []api.Begun{}}
	if !rec.Same(empty, api.Record{}) || !rec.Same(api.Record{}, empty) {
		t.Error("a list without elements is another one than nil")
	}
}

// P4.5

func TestDecodeOfEncodeIsTheRecord(t *testing.T) {
	for _, r := range samples() {
		data := encoded(t, r)
		for _, behind := range []string{"", "\x00", "behind", strings.Repeat("\xff", 100), data} {
			takes(t, "a sample with something behind", data+behind, r, len(data))
		}
	}
}

func TestDecodeOfFewerBytesThanEncodeLaid(t *testing.T) {
	for _, r := range []api.Record{small(), full(), {LSN: 1, Kind: api.Insert, Data: long(512)}, samples()[7]} {
		data := encoded(t, r)
		for n := range len(data) {
			refuses(t, "a record cut off", data[:n], api.ErrWhole)
		}
	}
	data := encoded(t, ofBody(65535))
	for _, n := range []int{0, 7, 8, 9, 65535, len(data) - 1} {
		refuses(t, "a long record cut off", data[:n], api.ErrWhole)
	}
}

// Each byte of a body is changed in each way, with the sum put right: what is taken all the same must come out again.
func TestEncodeOfWhatDecodeTakesIsTheBytes(t *testing.T) {
	data := encoded(t, full())
	taken := 0
	for at := 8; at < len(data); at++ {
		for b := range 256 {
			changed := framed(data[8:at] + string([]byte{byte(b)}) + data[at+1:])
			r, n, err := rec.Decode(changed)
			if err != api.OK {
				refuses(t, "a changed body", changed, api.ErrKind)
				continue
			}
			taken++
			if again := encoded(t, r); again != changed || n != len(changed) {
				t.Fatalf("byte %02X at %d: % X, want % X", b, at, again, changed)
			}
		}
	}
	if taken < 3000 {
		t.Errorf("only %d were taken", taken)
	}
}

func TestOneOfSeveralIsRead(t *testing.T) {
	var stream string
	for _, r := range samples() {
		stream += encoded(t, r)
	}
	for i, want := range samples() {
		r, n, err := rec.Decode(stream)
		if err != api.OK || !rec.Same(r, want) {
			t.Fatalf("record %d: %v", i, err)
		}
		stream = stream[n:]
	}
	if stream != "" {
		t.Errorf("%d bytes are left", len(stream))
	}
}

// R2

func TestWhatIsHandedInIsNotWrittenInto(t *testing.T) {
	r := full()
	r.Slots = append(make([]int, 0, 8), r.Slots...)
	r.More = append(make([]int, 0, 8), r.More...)
	r.Images = append(make([]api.Image, 0, 8), r.Images...)
	r.Pages = append(make([]api.Owed, 0, 8), r.Pages...)
	r.Txns = append(make([]api.Begun, 0, 8), r.Txns...)
	rec.Check(r)
	encoded(t, r)
	rec.Same(r, full())
	if !rec.Same(r, full()) {
		t.Errorf("%+v", r)
	}
	if !slices.Equal(r.Slots[2:8], make([]int, 6)) || !slices.Equal(r.More[3:8], make([]int, 5)) ||
		!slices.Equal(r.Pages[2:8], make([]api.Owed, 6)) || !slices.Equal(r.Txns[3:8], make([]api.Begun, 5)) {
		t.Error("something stands behind the lists")
	}
	for _, image := range r.Images[2:8] {
		if image.Page != 0 || !page.Same(image.Body, api.Page{}) {
			t.Errorf("behind the images stands %+v", image)
		}
	}
}

func TestAnswersAreApart(t *testing.T) {
	data := encoded(t, full())
	a, _, _ := rec.Decode(data)
	b, _, _ := rec.Decode(data)
	for _, n := range numbers(&a) {
		*n = 99
	}
	a.Images[0].Body.Items[0] = "changed"
	_ = append(a.Slots, 98)
	_ = append(a.More, 98)
	_ = append(a.Images, api.Image{Page: 98})
	_ = append(a.Pages, api.Owed{Page: 98})
	_ = append(a.Txns, api.Begun{Xid: 98})
	if !rec.Same(b, full()) {
		t.Errorf("%+v", b)
	}
	if a.More[0] != 99 || a.Slots[0] != 99 || a.Txns[0].Xid != 99 || a.More[1] != 0 {
		t.Errorf("lists of one answer share memory: %+v", a)
	}
}
