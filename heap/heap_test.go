package heap_test

import (
	"fmt"
	"math"
	"math/rand"
	"slices"
	"strings"
	"testing"

	"almonry/api"
	"almonry/heap"
	"almonry/page"
	"almonry/rec"
	"almonry/tuple"
)

var (
	ax      = api.Tuple{Xmin: 3, Key: "a", Value: "x"}
	longest = api.Tuple{Xmin: 1024, Xmax: 1024, Frozen: true, Key: strings.Repeat("k", 24), Value: strings.Repeat("v", 64)}
)

// notHeaps are kinds of other pages, and of none.
var notHeaps = []int{math.MinInt, -2, -1, 0, api.ClogPage, api.NodePage, 4, 258, math.MaxInt}

// oddNumbers are pages' numbers and slots that nobody should come with.
var oddNumbers = []int{math.MinInt, math.MinInt + 1, -1 << 32, -1, 0, 1, 1 << 32, math.MaxInt - 1, math.MaxInt}

// wrongTuples are no versions.
var wrongTuples = []api.Tuple{
	{},
	{Key: "a", Value: "x"},
	{Xmin: -1, Key: "a"},
	{Xmin: 1025, Key: "a"},
	{Xmin: 3, Xmax: -1, Key: "a"},
	{Xmin: 3, Xmax: 1025, Key: "a"},
	{Xmin: 3, Value: "x"},
	{Xmin: 3, Key: strings.Repeat("k", 25)},
	{Xmin: 3, Key: "a", Value: strings.Repeat("v", 65)},
}

// notLive are items that are no live versions: a free slot, dead ones, and broken ones.
func notLive() []string {
	whole := bytesOf(longest)
	return []string{
		"", deadOf("a"), deadOf(longest.Key), "\x05", "a", "\x04", "\x01", "\x01\x00\x03\x00\x00\x01a",
		"\x02" + whole[1:], whole[:len(whole)-1], whole + "v", "\x01\x00\x00\x00\x00\x01a\x00", strings.Repeat("z", 480),
	}
}

func heapPage(items ...string) api.Page { return api.Page{Kind: api.HeapPage, Items: items} }

// bytesOf is a version's bytes.
func bytesOf(v api.Tuple) string {
	item, err := tuple.Encode(v)
	if err != api.OK {
		panic(fmt.Sprint(v, err))
	}
	return item
}

func deadOf(key string) string {
	item, err := tuple.Dead(key)
	if err != api.OK {
		panic(fmt.Sprint(key, err))
	}
	return item
}

// ofBytes is a version that has so many bytes, from 8 to 95.
func ofBytes(n int) api.Tuple {
	v := api.Tuple{Xmin: 3, Key: "a", Value: strings.Repeat("v", min(n-8, 64))}
	v.Key += strings.Repeat("k", n-8-len(v.Value))
	return v
}

func roomIs(t *testing.T, p api.Page, want int) {
	t.Helper()
	if got := heap.Room(p); got != want {
		t.Errorf("Room of %d items, %d bytes: %d, want %d", len(p.Items), page.Size(p), got, want)
	}
}

func finds(t *testing.T, p api.Page, slot int, key string, want api.Tuple) {
	t.Helper()
	if got, ok := heap.Look(p, slot, key); got != want || !ok {
		t.Errorf("Look(%d, %q): %+v %v, want %+v", slot, key, got, ok, want)
	}
}

func findsNone(t *testing.T, p api.Page, slot int, key string) {
	t.Helper()
	if got, ok := heap.Look(p, slot, key); got != (api.Tuple{}) || ok {
		t.Errorf("Look(%d, %q) of kind %d: %+v %v, want none", slot, key, p.Kind, got, ok)
	}
}

func inserts(t *testing.T, p api.Page, number int, v api.Tuple, slot int) {
	t.Helper()
	got, err := heap.Insert(p, number, v)
	want := api.Record{Kind: api.Insert, Xid: v.Xmin, Page: number, Slot: slot, Data: bytesOf(v)}
	if err != api.OK || !rec.Same(got, want) {
		t.Errorf("Insert(%d, %+v): %+v %v, want %+v", number, v, got, err, want)
	}
}

func insertFails(t *testing.T, p api.Page, v api.Tuple, want api.Errno) {
	t.Helper()
	if got, err := heap.Insert(p, 7, v); err != want || !rec.Same(got, api.Record{}) {
		t.Errorf("Insert(%+v): %+v %v, want %v", v, got, err, want)
	}
}

func marks(t *testing.T, p api.Page, number, slot, own, old int) {
	t.Helper()
	got, err := heap.Mark(p, number, slot, own)
	want := api.Record{Kind: api.Mark, Xid: own, Page: number, Slot: slot, Old: old, New: own}
	if err != api.OK || !rec.Same(got, want) {
		t.Errorf("Mark(%d, %d, %d): %+v %v, want %+v", number, slot, own, got, err, want)
	}
}

func markFails(t *testing.T, p api.Page, slot, own int, want api.Errno) {
	t.Helper()
	if got, err := heap.Mark(p, 7, slot, own); err != want || !rec.Same(got, api.Record{}) {
		t.Errorf("Mark(%d, %d): %+v %v, want %v", slot, own, got, err, want)
	}
}

func keysAre(t *testing.T, p api.Page, want ...api.Entry) {
	t.Helper()
	if got := heap.Keys(p); !slices.Equal(got, want) {
		t.Errorf("Keys(%q): %v, want %v", p.Items, got, want)
	}
}

// applied is the page behind a record, as chapter 16 says of an Insert, a Mark, and an Undo of a Mark.
func applied(t *testing.T, p api.Page, r api.Record) api.Page {
	t.Helper()
	item, put := r.Data, page.With
	if r.Kind == api.Insert && r.Slot == len(p.Items) {
		put = page.Put
	}
	if r.Kind != api.Insert {
		v, err := tuple.Decode(p.Items[r.Slot])
		if err != api.OK || v.Xmax != r.Old {
			t.Fatalf("%+v of %+v: %v", r, v, err)
		}
		v.Xmax = r.New
		item = bytesOf(v)
	} else if r.Slot < len(p.Items) && p.Items[r.Slot] != "" {
		t.Fatalf("%+v: the slot is not free", r)
	}
	q, err := put(p, r.Slot, item)
	if err != api.OK {
		t.Fatalf("%+v: %v", r, err)
	}
	q.LSN++
	if _, err := page.Encode(q); err != api.OK {
		t.Fatalf("%+v, encoded: %v", r, err)
	}
	return q
}

func TestExamples(t *testing.T) {
	b := heap.Blank()
	roomIs(t, b, page.Room(b))
	inserts(t, b, 7, ax, 0)
	r, _ := heap.Insert(b, 7, ax)
	p := applied(t, b, r)
	finds(t, p, 0, "a", ax)
	findsNone(t, p, 0, "b")
	findsNone(t, p, 1, "a")
	marks(t, p, 7, 0, 5, 0)
	markFails(t, p, 1, 5, api.ErrSlot)
	markFails(t, p, 0, 0, api.ErrArg)
}

// P12.1

func TestBlank(t *testing.T) {
	if b := heap.Blank(); !page.Same(b, api.Page{Kind: 2}) {
		t.Errorf("Blank: %+v", b)
	}
	data, err := page.Encode(heap.Blank())
	if p, _ := page.Decode(data); err != api.OK || !page.Same(p, heap.Blank()) {
		t.Errorf("Blank, encoded: %+v %v", p, err)
	}
}

// P12.2

func TestRoom(t *testing.T) {
	roomIs(t, heap.Blank(), 490)
	roomIs(t, heapPage("ab"), 486)
	roomIs(t, heapPage(""), 490)
	roomIs(t, heapPage("", ""), 488)
	roomIs(t, heapPage("ab", ""), 486)
	roomIs(t, heapPage("", "ab"), 486)
	roomIs(t, heapPage("", "ab", ""), 484)
	roomIs(t, heapPage(bytesOf(ax), deadOf("k")), 490-(2+9)-(2+3))
	roomIs(t, heapPage(bytesOf(longest)), 490-(2+95))
}

func TestRoomOfOtherPages(t *testing.T) {
	for _, kind := range notHeaps {
		roomIs(t, api.Page{Kind: kind}, 0)
		roomIs(t, api.Page{Kind: kind, Items: []string{""}}, 0)
	}
}

// The room ends byte by byte; a free slot's bytes are given back, and it needs none for its length any more.
func TestRoomOfFullPages(t *testing.T) {
	for n := 1; n <= 1000; n++ {
		filled := strings.Repeat("z", n)
		roomIs(t, heapPage(filled), max(488-n, 0))
		roomIs(t, heapPage(filled, ""), max(488-n, 0))
		roomIs(t, heapPage("", filled, ""), max(486-n, 0))
	}
}

func TestRoomOfManyItems(t *testing.T) {
	for _, n := range []int{1, 163, 164, 244, 245, 246, 247, 254, 255, 256, 257, 1000} {
		roomIs(t, heapPage(slices.Repeat([]string{""}, n)...), max(492-2*n, 0))
		roomIs(t, heapPage(slices.Repeat([]string{"z"}, n)...), max(490-3*n, 0))
	}
}

// A heap page has no High, but one that is there takes its bytes, and none of above 255 is a page's.
func TestRoomBesideHigh(t *testing.T) {
	for _, n := range []int{0, 1, 254, 255} {
		p := heapPage()
		p.High = strings.Repeat("h", n)
		roomIs(t, p, 490-n)
		inserts(t, p, 7, longest, 0)
	}
	for _, n := range []int{256, 257, 400, 490, 1000} {
		p := heapPage()
		p.High = strings.Repeat("h", n)
		roomIs(t, p, 0)
		insertFails(t, p, ax, api.ErrRoom)
		p.Items = []string{""}
		roomIs(t, p, 0)
		insertFails(t, p, ax, api.ErrRoom)
		p.Items = []string{bytesOf(ax)}
		markFails(t, p, 0, 5, api.ErrRoom)
	}
}

// Room is what Insert takes, and no byte more.
func TestRoomIsWhatInsertTakes(t *testing.T) {
	for n := 380; n <= 500; n++ {
		filled := strings.Repeat("z", n)
		for _, p := range []api.Page{heapPage(filled), heapPage(filled, ""), heapPage("", filled), heapPage("", filled, "")} {
			slot, room := tuple.Slot(p), heap.Room(p)
			for size := 8; size <= 95; size++ {
				if size <= room {
					inserts(t, p, 7, ofBytes(size), slot)
				} else {
					insertFails(t, p, ofBytes(size), api.ErrRoom)
				}
			}
		}
	}
}

// P12.3

func TestLook(t *testing.T) {
	second := api.Tuple{Xmin: 9, Xmax: 12, Frozen: true, Key: "ab", Value: ""}
	p := heapPage(bytesOf(ax), "", bytesOf(second), deadOf("a"), bytesOf(longest), "\x05")
	finds(t, p, 0, "a", ax)
	finds(t, p, 2, "ab", second)
	finds(t, p, 4, longest.Key, longest)
	for slot := range p.Items {
		for _, key := range []string{"", "b", "aa", "a\x00", "A", longest.Key[1:], longest.Key + "k"} {
			findsNone(t, p, slot, key)
		}
	}
	findsNone(t, p, 0, "ab")
	findsNone(t, p, 2, "a")
	findsNone(t, p, 3, "a")
}

func TestLookOfNoSlot(t *testing.T) {
	p := heapPage(bytesOf(ax))
	for _, slot := range append([]int{-2, 2, 255, 256}, oddNumbers...) {
		if slot != 0 {
			findsNone(t, p, slot, "a")
			findsNone(t, p, slot, "")
		}
		findsNone(t, heap.Blank(), slot, "a")
		findsNone(t, api.Page{}, slot, "")
	}
	hidden := heapPage(bytesOf(ax), bytesOf(ax))
	hidden.Items = hidden.Items[:1]
	findsNone(t, hidden, 1, "a")
}

func TestLookOfNoVersion(t *testing.T) {
	for _, item := range notLive() {
		for _, key := range []string{"", "a", longest.Key} {
			findsNone(t, heapPage(item), 0, key)
			findsNone(t, heapPage(bytesOf(ax), item), 1, key)
		}
	}
}

func TestLookAtOtherPages(t *testing.T) {
	for _, kind := range notHeaps {
		findsNone(t, api.Page{Kind: kind, Items: []string{bytesOf(ax)}}, 0, "a")
	}
}

// P12.4

func TestInsert(t *testing.T) {
	for _, v := range []api.Tuple{ax, longest, {Xmin: 1, Key: "\x00"}, {Xmin: 1024, Xmax: 7, Key: "k", Value: "\x00\xFF"}} {
		inserts(t, heap.Blank(), 7, v, 0)
		inserts(t, heapPage(""), 7, v, 0)
		inserts(t, heapPage(bytesOf(ax)), 7, v, 1)
		inserts(t, heapPage(bytesOf(ax), "", deadOf("a"), ""), 7, v, 1)
		inserts(t, heapPage(bytesOf(ax), deadOf("a"), "\x05"), 7, v, 3)
	}
}

func TestInsertIntoAnyNumberedPage(t *testing.T) {
	for _, number := range oddNumbers {
		inserts(t, heap.Blank(), number, ax, 0)
		marks(t, heapPage(bytesOf(ax)), number, 0, 5, 0)
	}
}

func TestInsertIntoOtherPages(t *testing.T) {
	for _, kind := range notHeaps {
		p := api.Page{Kind: kind}
		insertFails(t, p, ax, api.ErrSlot)
		insertFails(t, p, api.Tuple{}, api.ErrSlot)
		p.Items = []string{strings.Repeat("z", 491)}
		insertFails(t, p, ax, api.ErrSlot)
	}
}

func TestInsertOfNoVersion(t *testing.T) {
	for _, v := range wrongTuples {
		insertFails(t, heap.Blank(), v, api.ErrTuple)
		insertFails(t, heapPage(strings.Repeat("z", 488)), v, api.ErrTuple)
		insertFails(t, heapPage(strings.Repeat("z", 1000)), v, api.ErrTuple)
	}
}

func TestInsertWithoutRoom(t *testing.T) {
	short, long := ofBytes(8), ofBytes(9)
	inserts(t, heapPage(strings.Repeat("z", 480)), 7, short, 1)
	insertFails(t, heapPage(strings.Repeat("z", 480)), long, api.ErrRoom)
	inserts(t, heapPage(strings.Repeat("z", 480), ""), 7, short, 1)
	insertFails(t, heapPage(strings.Repeat("z", 480), ""), long, api.ErrRoom)
	inserts(t, heapPage("", strings.Repeat("z", 478), ""), 7, short, 0)
	insertFails(t, heapPage("", strings.Repeat("z", 478), ""), long, api.ErrRoom)
	insertFails(t, heapPage(strings.Repeat("z", 491)), short, api.ErrRoom)
	insertFails(t, heapPage("", strings.Repeat("z", 491)), short, api.ErrRoom)
}

func TestInsertBesideManyItems(t *testing.T) {
	inserts(t, heapPage(slices.Repeat([]string{""}, 242)...), 7, ofBytes(8), 0)
	insertFails(t, heapPage(slices.Repeat([]string{""}, 243)...), ofBytes(8), api.ErrRoom)
	inserts(t, heapPage(slices.Repeat([]string{"z"}, 160)...), 7, ofBytes(10), 160)
	insertFails(t, heapPage(slices.Repeat([]string{"z"}, 161)...), ofBytes(8), api.ErrRoom)
	for _, n := range []int{246, 254, 255, 256, 1000} {
		insertFails(t, heapPage(slices.Repeat([]string{""}, n)...), ax, api.ErrRoom)
		insertFails(t, heapPage(slices.Repeat([]string{"z"}, n)...), ax, api.ErrRoom)
	}
}

// Numbers of a page that page.Encode refuses make it no longer, and no shorter.
func TestOddNumbersOfThePage(t *testing.T) {
	for _, n := range oddNumbers {
		p := api.Page{LSN: n, Kind: api.HeapPage, Level: n, Right: n}
		roomIs(t, p, 490)
		inserts(t, p, 7, ax, 0)
		p.Items = []string{bytesOf(ax)}
		finds(t, p, 0, "a", ax)
		marks(t, p, 7, 0, 5, 0)
		keysAre(t, p, api.Entry{Key: "a"})
		p.Items = append(p.Items, strings.Repeat("z", 600))
		roomIs(t, p, 0)
		insertFails(t, p, ax, api.ErrRoom)
		markFails(t, p, 0, 5, api.ErrRoom)
	}
}

// P12.5

func TestMark(t *testing.T) {
	for _, own := range []int{1, 2, 5, 255, 256, 1023, 1024} {
		for _, xmax := range []int{0, 3, 4, 300, 1022} {
			v := ax
			v.Xmax = xmax
			p := heapPage("", bytesOf(longest), bytesOf(v), deadOf("a"))
			marks(t, p, 7, 2, own, xmax)
			v.Frozen = true
			p.Items[2] = bytesOf(v)
			marks(t, p, 7, 2, own, xmax)
		}
	}
	// Who made a version may end it.
	marks(t, heapPage(bytesOf(ax)), 7, 0, 3, 0)
}

func TestMarkOfNoSlot(t *testing.T) {
	p := heapPage(bytesOf(ax))
	for _, slot := range append([]int{-2, 2, 255, 256}, oddNumbers...) {
		for _, own := range []int{math.MinInt, -1, 0, 5, 1025} {
			if slot != 0 {
				markFails(t, p, slot, own, api.ErrSlot)
			}
			markFails(t, heap.Blank(), slot, own, api.ErrSlot)
		}
	}
	hidden := heapPage(bytesOf(ax), bytesOf(ax))
	hidden.Items = hidden.Items[:1]
	markFails(t, hidden, 1, 5, api.ErrSlot)
}

func TestMarkOfNoVersion(t *testing.T) {
	for _, item := range notLive() {
		for _, own := range []int{0, 5, 1025} {
			markFails(t, heapPage(item), 0, own, api.ErrSlot)
			markFails(t, heapPage(bytesOf(ax), item, strings.Repeat("z", 600)), 1, own, api.ErrSlot)
		}
	}
}

func TestMarkOfOtherPages(t *testing.T) {
	for _, kind := range notHeaps {
		for _, own := range []int{0, 5} {
			markFails(t, api.Page{Kind: kind, Items: []string{bytesOf(ax)}}, 0, own, api.ErrSlot)
		}
	}
}

func TestMarkByWrongOwn(t *testing.T) {
	ended := ax
	ended.Xmax = 5
	p := heapPage(bytesOf(ax), bytesOf(ended), bytesOf(longest))
	for _, own := range []int{math.MinInt, -65531, -5, -1, 0, 1025, 1026, 65536, 65541, math.MaxInt} {
		for slot := range p.Items {
			markFails(t, p, slot, own, api.ErrArg)
		}
	}
	markFails(t, p, 1, 5, api.ErrArg)
	markFails(t, p, 2, 1024, api.ErrArg)
	marks(t, p, 7, 1, 6, 5)
	marks(t, p, 7, 2, 1023, 1024)
}

// A page that is full has room for an end, since ids take as many bytes whatever they are; one too long has none.
func TestMarkInFullPages(t *testing.T) {
	item := bytesOf(ax)
	rest := 512 - 20 - (2 + len(item)) - 2
	for n := rest - 3; n <= rest+3; n++ {
		p := heapPage(item, strings.Repeat("z", n))
		if n <= rest {
			marks(t, p, 7, 0, 1024, 0)
			continue
		}
		markFails(t, p, 0, 1024, api.ErrRoom)
		markFails(t, p, 0, 0, api.ErrArg)
		markFails(t, p, 1, 1024, api.ErrSlot)
	}
	for _, n := range []int{245, 254, 255, 1000} {
		p := heapPage(append([]string{item}, slices.Repeat([]string{""}, n)...)...)
		markFails(t, p, 0, 5, api.ErrRoom)
	}
}

// P12.6

func TestKeys(t *testing.T) {
	keysAre(t, heap.Blank())
	keysAre(t, heapPage("", ""))
	keysAre(t, heapPage(bytesOf(ax)), api.Entry{Key: "a"})
	keysAre(t, heapPage(deadOf("a")), api.Entry{Key: "a"})
	p := heapPage(bytesOf(longest), "", deadOf("q"), "\x05", bytesOf(ax), bytesOf(ax), deadOf("a"), "\x04")
	p.LSN, p.Level, p.Right, p.High = 9, 8, 7, "h"
	keysAre(t, p,
		api.Entry{Key: longest.Key, Slot: 0},
		api.Entry{Key: "q", Slot: 2},
		api.Entry{Key: "a", Slot: 4},
		api.Entry{Key: "a", Slot: 5},
		api.Entry{Key: "a", Slot: 6},
	)
}

func TestKeysOfOtherPages(t *testing.T) {
	for _, kind := range notHeaps {
		keysAre(t, api.Page{Kind: kind, Items: []string{bytesOf(ax), deadOf("q")}})
	}
}

func TestKeysOfBrokenSlots(t *testing.T) {
	for _, item := range notLive() {
		if tuple.State(item) != api.Dead {
			keysAre(t, heapPage(item))
			keysAre(t, heapPage(item, deadOf("q"), item), api.Entry{Key: "q", Slot: 1})
		}
	}
}

func TestKeysOfManySlots(t *testing.T) {
	for _, n := range []int{164, 255, 256, 1000} {
		var want []api.Entry
		for slot := range n {
			want = append(want, api.Entry{Key: "q", Slot: slot})
		}
		keysAre(t, heapPage(slices.Repeat([]string{deadOf("q")}, n)...), want...)
	}
}

// P12.7

// othersSame asks that of two pages all but one slot, and all fields but the LSN, be the same.
func othersSame(t *testing.T, p, q api.Page, slot int) {
	t.Helper()
	p.LSN, p.Items = q.LSN, slices.Clone(p.Items)
	if slot < len(p.Items) {
		p.Items[slot] = q.Items[slot]
	} else {
		p.Items = append(p.Items, q.Items[slot])
	}
	if !page.Same(p, q) {
		t.Fatalf("slot %d: %+v, then %+v", slot, p, q)
	}
}

func insertStep(t *testing.T, p api.Page, v api.Tuple) api.Page {
	t.Helper()
	room := heap.Room(p)
	r, err := heap.Insert(p, 7, v)
	if fits := len(bytesOf(v)) <= room; fits != (err == api.OK) || !fits && err != api.ErrRoom {
		t.Fatalf("Insert of %d bytes into room of %d: %v", len(bytesOf(v)), room, err)
	}
	if err != api.OK {
		return p
	}
	q := applied(t, p, r)
	finds(t, q, r.Slot, v.Key, v)
	othersSame(t, p, q, r.Slot)
	if now := heap.Room(q); now > room {
		t.Fatalf("Room rises from %d to %d", room, now)
	}
	if keys := heap.Keys(q); !slices.Contains(keys, api.Entry{Key: v.Key, Slot: r.Slot}) {
		t.Fatalf("Keys: %v, without %q in %d", keys, v.Key, r.Slot)
	}
	return q
}

func markStep(t *testing.T, p api.Page, slot, own int) api.Page {
	t.Helper()
	old, err := tuple.Decode(p.Items[slot])
	if err != api.OK {
		markFails(t, p, slot, own, api.ErrSlot)
		return p
	}
	if old.Xmax == own {
		markFails(t, p, slot, own, api.ErrArg)
		return p
	}
	r, err := heap.Mark(p, 7, slot, own)
	if err != api.OK {
		t.Fatalf("Mark(%d, %d): %v", slot, own, err)
	}
	q := applied(t, p, r)
	ended := old
	ended.Xmax = own
	finds(t, q, slot, old.Key, ended)
	othersSame(t, p, q, slot)
	back := applied(t, q, api.Record{Kind: api.Undo, Xid: r.Xid, Page: 7, Slot: r.Slot, Old: r.New, New: r.Old})
	back.LSN = p.LSN
	if !page.Same(back, p) {
		t.Fatalf("undone: %+v, was %+v", back, p)
	}
	return q
}

func TestScripts(t *testing.T) {
	random := rand.New(rand.NewSource(12))
	laid, ended := 0, 0
	for range 300 {
		p := heap.Blank()
		for range 60 {
			q := scriptStep(t, random, p)
			switch {
			case q.LSN == p.LSN:
			case len(heap.Keys(q)) > len(heap.Keys(p)):
				laid++
			default:
				ended++
			}
			p = q
		}
	}
	if laid < 2000 || ended < 2000 {
		t.Errorf("only %d versions were laid, and %d ended", laid, ended)
	}
}

// scriptStep lays a version, ends one, or lets a slot be dead or free, as an undo and a vacuum do.
func scriptStep(t *testing.T, random *rand.Rand, p api.Page) api.Page {
	t.Helper()
	at := 0
	if len(p.Items) > 0 {
		at = random.Intn(len(p.Items))
	}
	switch choice := random.Intn(8); {
	case choice < 3 || len(p.Items) == 0:
		return insertStep(t, p, randomTuple(random))
	case choice < 6:
		return markStep(t, p, at, 1+random.Intn(1024))
	case choice < 7 && tuple.State(p.Items[at]) == api.Live:
		key, _ := tuple.Key(p.Items[at])
		p, _ = page.With(p, at, deadOf(key))
		findsNone(t, p, at, key)
	default:
		p, _ = page.With(p, at, tuple.Free())
	}
	return p
}

func randomTuple(random *rand.Rand) api.Tuple {
	text := make([]byte, 1+random.Intn(24)+random.Intn(65))
	random.Read(text)
	cut := 1 + random.Intn(min(len(text), 24))
	return api.Tuple{
		Xmin:   1 + random.Intn(1024),
		Xmax:   random.Intn(1025),
		Frozen: random.Intn(2) == 0,
		Key:    string(text[:cut]),
		Value:  string(text[cut:min(len(text), cut+64)]),
	}
}

// R2

func TestNothingIsWrittenInto(t *testing.T) {
	items := []string{bytesOf(ax), "", deadOf("q"), "behind", "behind too"}
	before := slices.Clone(items)
	for n := range items {
		p := heapPage(items[:n]...)
		heap.Room(p)
		heap.Look(p, 0, "a")
		heap.Insert(p, 7, longest)
		heap.Mark(p, 7, 0, 5)
		keys := heap.Keys(p)
		for i := range keys {
			keys[i].Key = "changed"
		}
		if !slices.Equal(items, before) {
			t.Fatalf("items are %q, were %q", items, before)
		}
	}
	keysAre(t, heapPage(items[:3]...), api.Entry{Key: "a"}, api.Entry{Key: "q", Slot: 2})
}

// R3

func TestAnswersDoNotHangOnEarlierCalls(t *testing.T) {
	b := heap.Blank()
	b.Items = append(b.Items, "x")
	if again := heap.Blank(); len(again.Items) != 0 {
		t.Errorf("Blank has %q", again.Items)
	}
	p := heapPage(bytesOf(ax), "", deadOf("q"))
	ask := func() string {
		v, ok := heap.Look(p, 0, "a")
		r, err := heap.Insert(p, 7, longest)
		m, markErr := heap.Mark(p, 7, 0, 5)
		return fmt.Sprint(heap.Room(p), v, ok, r, err, m, markErr, heap.Keys(p))
	}
	first := ask()
	for _, v := range wrongTuples {
		heap.Insert(p, 7, v)
		heap.Mark(p, 7, 0, v.Xmax)
		heap.Look(p, v.Xmin, v.Key)
	}
	if again := ask(); again != first {
		t.Errorf("%q, then %q", first, again)
	}
}
