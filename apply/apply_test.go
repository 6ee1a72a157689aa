package apply_test

import (
	"fmt"
	"math"
	"slices"
	"strings"
	"testing"

	"almonry/api"
	"almonry/apply"
	"almonry/clog"
	"almonry/heap"
	"almonry/node"
	"almonry/page"
	"almonry/rec"
	"almonry/tuple"
)

var (
	ax      = api.Tuple{Xmin: 3, Key: "a", Value: "x"}
	ended   = api.Tuple{Xmin: 3, Xmax: 5, Key: "q"}
	longest = api.Tuple{Xmin: 1024, Xmax: 1024, Frozen: true, Key: strings.Repeat("k", 24), Value: strings.Repeat("v", 64)}
)

// touching are the kinds that do something to their Page.
var touching = []api.Kind{
	api.Insert, api.Mark, api.EntryIn, api.EntryOut, api.Undo, api.Commited, api.RolledBack, api.Clean, api.Freeze, api.Cut,
}

// noIDs can be nobody's, in a version.
var noIDs = []int{math.MinInt, -65533, -1024, -1, 1025, 65535, 65536, 65539, math.MaxInt}

// noSlots are slots that no page has.
var noSlots = []int{math.MinInt, -1 << 32, -256, -2, -1, 1000, 1 << 32, math.MaxInt}

// noModuli are none of ids.
var noModuli = []int{math.MinInt, -16, -1, 0, 1, 2, 4, 14, 15, 17, 1023, 1025, 1026, math.MaxInt}

// notLive are items that are no versions: a free slot, dead ones, and broken ones.
func notLive() []string {
	whole := bytesOf(longest)
	return []string{
		"", deadOf("a"), deadOf(longest.Key), "\x05", "a", "\x04", "\x01", "\x01\x00\x03\x00\x00\x01a",
		"\x02" + whole[1:], whole[:len(whole)-1], whole + "v", "\x01\x00\x00\x00\x00\x01a\x00", strings.Repeat("z", 400),
	}
}

func bytesOf(v api.Tuple) string { return sure(tuple.Encode(v)) }

func deadOf(key string) string { return sure(tuple.Dead(key)) }

func itemOf(e api.Entry) string { return sure(node.Encode(e)) }

func sepOf(e api.Entry, child int) string { return sure(node.Sep(e, child)) }

func entry(key string, page, slot int) api.Entry { return api.Entry{Key: key, Page: page, Slot: slot} }

// sure is an answer that the tests take for granted.
func sure[T any](x T, err api.Errno) T {
	if err != api.OK {
		panic(err)
	}
	return x
}

// heapPage has the LSN 5, as the other pages here.
func heapPage(items ...string) api.Page { return api.Page{LSN: 5, Kind: api.HeapPage, Items: items} }

func leafOf(list ...api.Entry) api.Page {
	p := api.Page{LSN: 5, Kind: api.NodePage}
	for _, e := range list {
		p.Items = append(p.Items, itemOf(e))
	}
	return p
}

// innerOf has the children 30, 31 and so on, the first one at the least.
func innerOf(list ...api.Entry) api.Page {
	p := api.Page{LSN: 5, Kind: api.NodePage, Level: 1, Items: []string{sepOf(api.Entry{}, 30)}}
	for i, e := range list {
		p.Items = append(p.Items, sepOf(e, 31+i))
	}
	return p
}

// statuses is a page of the modulus 16 and the limit 3, whose ids from 1 on have these.
func statuses(list ...api.Status) api.Page {
	p := sure(clog.Blank(16, 3))
	for i, s := range list {
		p = sure(clog.Set(16, p, i+1, s))
	}
	p.LSN = 5
	return p
}

// later is a page with another LSN.
func later(p api.Page, lsn int) api.Page {
	p.LSN = lsn
	return p
}

// in is a page with an item in a place.
func in(p api.Page, at int, item string) api.Page {
	p.Items = slices.Clone(p.Items)
	p.Items[at] = item
	return p
}

// at is a record of page 7, at 9.
func at(r api.Record) api.Record {
	r.LSN, r.Page = 9, 7
	return r
}

// withHidden has a list with something behind its length.
func withHidden(p api.Page) api.Page {
	p.Items = append(slices.Clone(p.Items), "hidden")[:len(p.Items)]
	return p
}

func hiddenIsThere(p api.Page) bool { return p.Items[:len(p.Items)+1][len(p.Items)] == "hidden" }

// twin shares no list with a record.
func twin(r api.Record) api.Record {
	r.Slots, r.More = slices.Clone(r.Slots), slices.Clone(r.More)
	r.Pages, r.Txns = slices.Clone(r.Pages), slices.Clone(r.Txns)
	r.Images = slices.Clone(r.Images)
	for i := range r.Images {
		r.Images[i].Body = withHidden(r.Images[i].Body)
	}
	return r
}

// do is Do, which must not write into what it is handed, nor answer what shares it.
func do(t *testing.T, modulus int, p api.Page, on int, r api.Record) (api.Page, api.Errno) {
	t.Helper()
	given, told := withHidden(p), twin(r)
	got, err := apply.Do(modulus, given, on, told)
	answer := got
	answer.Items = slices.Clone(got.Items)
	for i := range got.Items[:cap(got.Items)] {
		got.Items[:cap(got.Items)][i] = "scribbled"
	}
	if !page.Same(given, p) || !hiddenIsThere(given) || !rec.Same(told, r) {
		t.Fatalf("Do(%+v, %d, %+v) or its answer wrote into what was handed in", p, on, r)
	}
	for _, image := range told.Images {
		if !hiddenIsThere(image.Body) {
			t.Fatalf("Do(%+v, %d, %+v) wrote behind an image's list", p, on, r)
		}
	}
	return answer, err
}

// doesWith is does with any modulus and page.
func doesWith(t *testing.T, modulus int, p api.Page, on int, r api.Record, want api.Page) {
	t.Helper()
	if got, err := do(t, modulus, p, on, r); err != api.OK || !page.Same(got, want) {
		t.Errorf("Do(%d, %+v, %d, %+v): %+v %v, want %+v", modulus, p, on, r, got, err, want)
	}
}

// does asks of a record of page 7 at 9 what it makes of a page; want's LSN does not matter.
func does(t *testing.T, p api.Page, r api.Record, want api.Page) {
	t.Helper()
	doesWith(t, 16, p, 7, at(r), later(want, 9))
}

func failsWith(t *testing.T, modulus int, p api.Page, r api.Record, want api.Errno) {
	t.Helper()
	if got, err := do(t, modulus, p, 7, at(r)); err != want || !page.Same(got, api.Page{}) {
		t.Errorf("Do(%d, %+v, %+v): %+v %v, want %v", modulus, p, at(r), got, err, want)
	}
}

func fails(t *testing.T, p api.Page, r api.Record, want api.Errno) {
	t.Helper()
	failsWith(t, 16, p, r, want)
}

func touches(t *testing.T, r api.Record, want ...int) {
	t.Helper()
	told := twin(r)
	got := apply.Touches(told)
	if !slices.Equal(got, want) {
		t.Errorf("Touches(%+v): %v, want %v", r, got, want)
	}
	for i := range got {
		got[i] = 12345
	}
	if !rec.Same(told, r) || !slices.Equal(apply.Touches(r), want) {
		t.Errorf("Touches(%+v) wrote into what was handed in, or answers another list then", r)
	}
}

func TestExamples(t *testing.T) {
	first := api.Record{LSN: 9, Kind: api.Insert, Xid: 3, Prev: 4, Page: 7, Data: bytesOf(ax)}
	blank := later(heap.Blank(), 5)
	laid := later(heapPage(bytesOf(ax)), 9)
	doesWith(t, 16, blank, 7, first, laid)
	doesWith(t, 16, laid, 7, first, laid)
	doesWith(t, 16, blank, 8, first, blank)
	doesWith(t, 16, later(blank, 9), 7, first, later(blank, 9))

	back, err := apply.Back(first)
	if want := (api.Record{Kind: api.Undo, Xid: 3, Page: 7, Slot: 0, Next: 4}); err != api.OK || !rec.Same(back, want) {
		t.Errorf("Back: %+v %v", back, err)
	}
	back.LSN = 12
	doesWith(t, 16, laid, 7, back, later(heapPage(deadOf("a")), 12))

	mark := api.Record{LSN: 10, Kind: api.Mark, Page: 7, New: 4}
	marked := later(heapPage(bytesOf(api.Tuple{Xmin: 3, Xmax: 4, Key: "a", Value: "x"})), 10)
	doesWith(t, 16, laid, 7, mark, marked)
	if got, err := apply.Do(16, marked, 7, api.Record{LSN: 11, Kind: api.Mark, Page: 7, New: 5}); err != api.ErrTuple || !page.Same(got, api.Page{}) {
		t.Errorf("Mark of one that is ended: %+v %v", got, err)
	}
	back, err = apply.Back(api.Record{Kind: api.Mark, New: 4})
	if want := (api.Record{Kind: api.Undo, Old: 4}); err != api.OK || !rec.Same(back, want) {
		t.Errorf("Back: %+v %v", back, err)
	}
}

// P16.1

func TestTouchesItsPage(t *testing.T) {
	for kind := range 256 {
		for _, number := range []int{math.MinInt, -1, 0, 1, 7, 65535, 65536, math.MaxInt} {
			r := api.Record{Kind: api.Kind(kind), Page: number}
			if slices.Contains(touching, r.Kind) {
				touches(t, r, number)
			} else {
				touches(t, r)
			}
		}
	}
}

func TestTouchesThePagesOfImages(t *testing.T) {
	images := func(pages ...int) []api.Image {
		var list []api.Image
		for _, n := range pages {
			list = append(list, api.Image{Page: n, Body: heapPage("x")})
		}
		return list
	}
	for kind := range 256 {
		r := api.Record{Kind: api.Kind(kind), Page: 7, Images: images(9, 3, 9, -1, 3)}
		if slices.Contains(touching, r.Kind) {
			touches(t, r, -1, 3, 7, 9)
			r.Images = images(9, 7, 3)
			touches(t, r, 3, 7, 9)
			r.Images = images(7, 7)
			touches(t, r, 7)
			r.Images = images(math.MaxInt, math.MinInt)
			touches(t, r, math.MinInt, 7, math.MaxInt)
			continue
		}
		touches(t, r, -1, 3, 9)
		r.Images = images(7)
		touches(t, r, 7)
	}
}

// What a record says of other pages, of slots, and of transactions is no page that it touches.
func TestTouchesNothingElse(t *testing.T) {
	for kind := range 20 {
		r := fullRecord(api.Kind(kind))
		r.Images = nil
		if slices.Contains(touching, r.Kind) {
			touches(t, r, r.Page)
		} else {
			touches(t, r)
		}
	}
}

// fullRecord has something in each field.
func fullRecord(kind api.Kind) api.Record {
	return api.Record{
		LSN: 90, Prev: 41, Next: 42, Kind: kind, Xid: 3, Page: 47, Slot: 2, Old: 44, New: 45, Redo: 46, Data: "data",
		Slots: []int{1, 2}, More: []int{3}, Images: []api.Image{{Page: 50, Body: heapPage("x")}},
		Pages: []api.Owed{{Page: 51, LSN: 52}}, Txns: []api.Begun{{Xid: 53, Last: 54}},
	}
}

// P16.2, 1

// bodies are what an image may bring: it is not asked what they are.
func bodies() []api.Page {
	return []api.Page{
		{},
		heapPage(bytesOf(ax), "", "broken"),
		{LSN: math.MaxInt, Kind: 99, Level: -1, Right: -7, High: "high", Items: []string{"", strings.Repeat("z", 600)}},
		leafOf(entry("a", 1, 0)),
		statuses(api.Committed),
	}
}

func TestImageIsThePage(t *testing.T) {
	for kind := range 256 {
		for _, body := range bodies() {
			r := api.Record{LSN: 9, Kind: api.Kind(kind), Page: 7, Images: []api.Image{{Page: 8, Body: body}}}
			for _, lsn := range []int{math.MinInt, 0, 8, 9, 10, math.MaxInt} {
				doesWith(t, 16, later(heapPage("x"), lsn), 8, r, later(body, 9))
			}
			r.Page = 8
			doesWith(t, 16, heapPage("x"), 8, r, later(body, 9))
		}
	}
}

func TestFirstImageOfThePageCounts(t *testing.T) {
	one, two, three := heapPage("1"), heapPage("2"), heapPage("3")
	r := api.Record{LSN: 9, Kind: api.Split, Images: []api.Image{{Page: 3, Body: one}, {Page: 7, Body: two}, {Page: 7, Body: three}, {Page: 3, Body: three}}}
	doesWith(t, 16, later(heapPage(), 99), 3, r, later(one, 9))
	doesWith(t, 16, later(heapPage(), 99), 7, r, later(two, 9))
	doesWith(t, 16, heapPage("x"), 4, r, heapPage("x"))
	for _, lsn := range []int{math.MinInt, -1, 0, math.MaxInt} {
		r.LSN = lsn
		doesWith(t, 16, heapPage("x"), 7, r, later(two, lsn))
	}
}

// An image of another page does not stand in the way of what the record does to its own.
func TestImageOfAnotherPage(t *testing.T) {
	r := api.Record{Kind: api.Insert, Data: bytesOf(ax), Images: []api.Image{{Page: 8, Body: heapPage("x")}}}
	does(t, heapPage(), r, heapPage(bytesOf(ax)))
}

// P16.2, 2

// deedsThatWork are of page 7 at 9, with a page each to which they can be done.
func deedsThatWork() map[api.Kind]struct {
	p api.Page
	r api.Record
} {
	type pair = struct {
		p api.Page
		r api.Record
	}
	list := map[api.Kind]pair{
		api.Insert:     {heapPage(""), api.Record{Data: bytesOf(ax)}},
		api.Mark:       {heapPage(bytesOf(ax)), api.Record{New: 4}},
		api.Undo:       {heapPage(bytesOf(ax)), api.Record{}},
		api.EntryIn:    {leafOf(), api.Record{Data: itemOf(entry("a", 1, 0))}},
		api.EntryOut:   {leafOf(entry("a", 1, 0)), api.Record{Data: itemOf(entry("a", 1, 0))}},
		api.Commited:   {statuses(), api.Record{Xid: 2}},
		api.RolledBack: {statuses(), api.Record{Xid: 2}},
		api.Clean:      {heapPage("x"), api.Record{Slots: []int{0}}},
		api.Freeze:     {heapPage(bytesOf(ax)), api.Record{Slots: []int{0}}},
		api.Cut:        {statuses(), api.Record{New: 4}},
	}
	for kind, x := range list {
		x.r = at(x.r)
		x.r.Kind = kind
		list[kind] = x
	}
	return list
}

func TestEachKindIsDoneJustToOlderPages(t *testing.T) {
	for kind, x := range deedsThatWork() {
		for _, lsn := range []int{0, 1, 7, 8} {
			got, err := do(t, 16, later(x.p, lsn), 7, x.r)
			if err != api.OK || got.LSN != 9 || slices.Equal(got.Items, x.p.Items) {
				t.Errorf("kind %d at a page of LSN %d: %+v %v", kind, lsn, got, err)
			}
		}
		for _, lsn := range []int{9, 10, 1 << 40, math.MaxInt} {
			doesWith(t, 16, later(x.p, lsn), 7, x.r, later(x.p, lsn))
		}
		for _, on := range []int{math.MinInt, -7, 0, 6, 8, 263, math.MaxInt} {
			doesWith(t, 16, x.p, on, x.r, x.p)
		}
	}
	if got := len(deedsThatWork()); got != len(touching) {
		t.Error("kinds that are tried:", got)
	}
}

// What can't be done is no error, where it is not to be done.
func TestNothingIsAskedOfWhatStays(t *testing.T) {
	broken := append(bodies(), heapPage(), leafOf(), statuses())
	for _, kind := range touching {
		r := at(api.Record{Kind: kind, Slot: -1, Xid: -1, New: -1, Old: -1, Data: "x", Slots: []int{-1}, More: []int{99}})
		for _, p := range broken {
			doesWith(t, 0, later(p, 9), 7, r, later(p, 9))
			doesWith(t, 0, later(p, 10), 7, r, later(p, 10))
			doesWith(t, 0, p, 8, r, p)
		}
	}
}

func TestKindsThatDoNothing(t *testing.T) {
	for kind := range 256 {
		if slices.Contains(touching, api.Kind(kind)) {
			continue
		}
		for _, p := range bodies() {
			doesWith(t, 16, p, 7, at(api.Record{Kind: api.Kind(kind), Data: bytesOf(ax), Xid: 2, New: 4}), p)
			r := fullRecord(api.Kind(kind))
			doesWith(t, 16, p, r.Page, r, p)
		}
	}
}

// The page's other fields stay, and are not asked for, of a page of versions; whatever else the record says.
func TestOtherFieldsStay(t *testing.T) {
	p := api.Page{LSN: -3, Kind: 77, Level: -4, Right: -5, High: "high", Items: []string{"", bytesOf(ax), "z"}}
	r := fullRecord(api.Insert)
	r.Images, r.Slot, r.Data = nil, 0, bytesOf(ax)
	doesWith(t, -1, p, r.Page, r, later(in(p, 0, bytesOf(ax)), 90))
	r = fullRecord(api.Mark)
	r.Images, r.Slot, r.Old = nil, 1, 0
	doesWith(t, -1, p, r.Page, r, later(in(p, 1, bytesOf(api.Tuple{Xmin: 3, Xmax: 45, Key: "a", Value: "x"})), 90))
	r = fullRecord(api.Undo)
	r.Images, r.Slot, r.Old, r.New = nil, 1, 0, 0
	doesWith(t, -1, p, r.Page, r, later(in(p, 1, deadOf("a")), 90))
	r = fullRecord(api.Clean)
	r.Images = nil
	doesWith(t, -1, p, r.Page, r, later(in(in(p, 1, ""), 2, ""), 90))
	r = fullRecord(api.Freeze)
	r.Images, r.Slots, r.More = nil, []int{1}, nil
	doesWith(t, -1, p, r.Page, r, later(in(p, 1, bytesOf(api.Tuple{Xmin: 3, Frozen: true, Key: "a", Value: "x"})), 90))
}

// P16.3

func TestUndoes(t *testing.T) {
	for kind := range 256 {
		r := fullRecord(api.Kind(kind))
		want := r.Kind == api.Insert || r.Kind == api.Mark
		if apply.Undoes(r) != want || apply.Undoes(api.Record{Kind: r.Kind}) != want {
			t.Error(kind, !want)
		}
	}
}

func TestBack(t *testing.T) {
	for kind := range 256 {
		r := fullRecord(api.Kind(kind))
		want, wantErr := api.Record{}, api.ErrUndo
		switch r.Kind {
		case api.Insert:
			want, wantErr = api.Record{Kind: api.Undo, Xid: 3, Page: 47, Slot: 2, Next: 41}, api.OK
		case api.Mark:
			want, wantErr = api.Record{Kind: api.Undo, Xid: 3, Page: 47, Slot: 2, Old: 45, New: 44, Next: 41}, api.OK
		}
		if got, err := apply.Back(r); err != wantErr || !rec.Same(got, want) {
			t.Errorf("Back(%+v): %+v %v, want %+v %v", r, got, err, want, wantErr)
		}
		if !rec.Same(r, fullRecord(r.Kind)) {
			t.Errorf("Back wrote into %+v", r)
		}
	}
}

func TestBackTakesAnyNumbers(t *testing.T) {
	numbers := []int{math.MinInt, -1, 0, 1, 1025, math.MaxInt}
	for _, n := range numbers {
		for _, m := range numbers {
			r := api.Record{Kind: api.Mark, Xid: n, Page: m, Slot: n, Prev: m, Old: n, New: m}
			want := api.Record{Kind: api.Undo, Xid: n, Page: m, Slot: n, Next: m, Old: m, New: n}
			if got, err := apply.Back(r); err != api.OK || !rec.Same(got, want) {
				t.Errorf("Back(%+v): %+v %v", r, got, err)
			}
			r.Kind, want.Old, want.New = api.Insert, 0, 0
			if got, err := apply.Back(r); err != api.OK || !rec.Same(got, want) {
				t.Errorf("Back(%+v): %+v %v", r, got, err)
			}
		}
	}
}

func TestAnswersDoNotHangOnEarlierCalls(t *testing.T) {
	for range 2 {
		for kind, x := range deedsThatWork() {
			first := fmt.Sprint(apply.Do(16, x.p, 7, x.r))
			for _, y := range deedsThatWork() {
				apply.Do(16, y.p, 7, y.r)
				apply.Do(18, y.p, 7, y.r)
			}
			if again := fmt.Sprint(apply.Do(16, x.p, 7, x.r)); again != first {
				t.Errorf("kind %d: %s, then %s", kind, first, again)
			}
		}
	}
}
