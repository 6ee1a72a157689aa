package apply_test

import (
	"fmt"
	"math"
	"slices"
	"strings"
	"testing"

	"almonry/api"
	"almonry/clog"
	"almonry/page"
)

// P16.2, 3: what each kind does.

func inserts(slot int, data string) api.Record {
	return api.Record{Kind: api.Insert, Slot: slot, Data: data}
}

func TestInsertIntoAFreeSlot(t *testing.T) {
	for _, v := range []api.Tuple{ax, ended, longest} {
		p := heapPage("", bytesOf(ended), "", deadOf("q"), "\x05", "")
		for _, slot := range []int{0, 2, 5} {
			does(t, p, inserts(slot, bytesOf(v)), in(p, slot, bytesOf(v)))
		}
	}
}

func TestInsertBehindAll(t *testing.T) {
	p := heapPage()
	for range 4 {
		more := heapPage(append(slices.Clone(p.Items), bytesOf(longest))...)
		does(t, p, inserts(len(p.Items), bytesOf(longest)), more)
		p = more
	}
	// Nor does a free slot ahead of it matter.
	does(t, heapPage("", "x"), inserts(2, bytesOf(ax)), heapPage("", "x", bytesOf(ax)))
}

func TestInsertOfNoVersion(t *testing.T) {
	for _, item := range append(notLive(), strings.Repeat("z", 600)) {
		for _, slot := range append([]int{0, 1, 2}, noSlots...) {
			fails(t, heapPage("", bytesOf(ax)), inserts(slot, item), api.ErrTuple)
			fails(t, heapPage(), inserts(slot, item), api.ErrTuple)
		}
	}
}

func TestInsertIntoATakenSlot(t *testing.T) {
	for _, item := range append(notLive(), bytesOf(ax), bytesOf(longest)) {
		if item == "" {
			continue
		}
		fails(t, heapPage(item), inserts(0, bytesOf(ax)), api.ErrTuple)
		fails(t, heapPage("", item, ""), inserts(1, bytesOf(ax)), api.ErrTuple)
		fails(t, heapPage("", item, strings.Repeat("z", 600)), inserts(1, bytesOf(ax)), api.ErrTuple)
	}
}

func TestInsertWithoutASlot(t *testing.T) {
	for _, p := range []api.Page{heapPage(), heapPage(""), heapPage(bytesOf(ax), ""), heapPage(strings.Repeat("z", 600))} {
		for _, slot := range append([]int{len(p.Items) + 1, len(p.Items) + 2, len(p.Items) + 256}, noSlots...) {
			fails(t, p, inserts(slot, bytesOf(ax)), api.ErrArg)
		}
	}
}

func TestInsertWithoutRoom(t *testing.T) {
	// Ahead of the version: the page's own 20 bytes, and 2 of each item.
	left := 512 - 20 - 2 - 2 - len(bytesOf(ax))
	for n := left - 2; n <= left+2; n++ {
		other := strings.Repeat("z", n)
		if n <= left {
			does(t, heapPage(other), inserts(1, bytesOf(ax)), heapPage(other, bytesOf(ax)))
			does(t, heapPage("", other), inserts(0, bytesOf(ax)), heapPage(bytesOf(ax), other))
			continue
		}
		fails(t, heapPage(other), inserts(1, bytesOf(ax)), api.ErrLong)
		fails(t, heapPage("", other), inserts(0, bytesOf(ax)), api.ErrLong)
	}
	many := slices.Repeat([]string{""}, 255)
	fails(t, heapPage(many...), inserts(255, bytesOf(ax)), api.ErrLong)
	fails(t, heapPage(many...), inserts(4, bytesOf(ax)), api.ErrLong)
}

// isMarked asks it of a Mark and of an Undo that is not one of an Insert.
func isMarked(t *testing.T, p api.Page, slot, old, now int, want api.Page) {
	t.Helper()
	does(t, p, api.Record{Kind: api.Mark, Slot: slot, Old: old, New: now}, want)
	if old != 0 || now != 0 {
		does(t, p, api.Record{Kind: api.Undo, Slot: slot, Old: old, New: now}, want)
	}
}

func isNotMarked(t *testing.T, p api.Page, slot, old, now int) {
	t.Helper()
	fails(t, p, api.Record{Kind: api.Mark, Slot: slot, Old: old, New: now}, api.ErrTuple)
	if old != 0 || now != 0 {
		fails(t, p, api.Record{Kind: api.Undo, Slot: slot, Old: old, New: now}, api.ErrTuple)
	}
}

func TestMark(t *testing.T) {
	ids := []int{0, 1, 3, 17, 255, 256, 300, 1023, 1024}
	for _, v := range []api.Tuple{ax, ended, longest} {
		for _, old := range ids {
			for _, now := range ids {
				v.Xmax = old
				p := heapPage("", bytesOf(ax), bytesOf(v), deadOf("a"), bytesOf(v))
				v.Xmax = now
				isMarked(t, p, 2, old, now, in(p, 2, bytesOf(v)))
				isMarked(t, p, 4, old, now, in(p, 4, bytesOf(v)))
			}
		}
	}
}

func TestMarkOfAnotherEnd(t *testing.T) {
	ids := []int{0, 1, 5, 261, 1024}
	for _, xmax := range ids {
		p := heapPage(bytesOf(api.Tuple{Xmin: 3, Xmax: xmax, Key: "a"}))
		for _, old := range slices.Concat(ids, noIDs) {
			if old == xmax {
				continue
			}
			for _, now := range slices.Concat(ids, noIDs) {
				isNotMarked(t, p, 0, old, now)
			}
		}
	}
}

func TestMarkByNobody(t *testing.T) {
	for _, now := range noIDs {
		isNotMarked(t, heapPage(bytesOf(ax)), 0, 0, now)
		isNotMarked(t, heapPage(bytesOf(ended)), 0, 5, now)
	}
}

func TestMarkOfNoVersion(t *testing.T) {
	for _, item := range notLive() {
		isNotMarked(t, heapPage(bytesOf(ax), item), 1, 0, 4)
		isNotMarked(t, heapPage(bytesOf(ax), item), 1, 0, 0)
		isNotMarked(t, heapPage(bytesOf(ax), item), 1, 4, 0)
	}
	p := heapPage(bytesOf(ax))
	for _, slot := range append([]int{1, 2, 256}, noSlots...) {
		isNotMarked(t, p, slot, 0, 4)
		isNotMarked(t, heapPage(), slot, 0, 4)
	}
	isNotMarked(t, heapPage(), 0, 0, 4)
}

func undoes(slot int) api.Record { return api.Record{Kind: api.Undo, Slot: slot} }

func TestUndoOfAnInsert(t *testing.T) {
	for _, v := range []api.Tuple{ax, ended, longest} {
		p := heapPage("", bytesOf(ax), bytesOf(v), bytesOf(v))
		does(t, p, undoes(2), in(p, 2, deadOf(v.Key)))
		does(t, p, undoes(3), in(p, 3, deadOf(v.Key)))
	}
	for _, item := range notLive() {
		fails(t, heapPage(bytesOf(ax), item), undoes(1), api.ErrTuple)
	}
	for _, slot := range append([]int{1, 2, 256}, noSlots...) {
		fails(t, heapPage(bytesOf(ax)), undoes(slot), api.ErrTuple)
		fails(t, heapPage(), undoes(slot), api.ErrTuple)
	}
	fails(t, heapPage(), undoes(0), api.ErrTuple)
}

func cleans(slots ...int) api.Record { return api.Record{Kind: api.Clean, Slots: slots} }

func TestClean(t *testing.T) {
	all := append(notLive(), bytesOf(ax), bytesOf(longest))
	p := heapPage(all...)
	does(t, p, cleans(), p)
	for slot := range all {
		does(t, p, cleans(slot), in(p, slot, ""))
		does(t, p, cleans(slot, slot), in(p, slot, ""))
		does(t, p, cleans(slot, 3), in(in(p, slot, ""), 3, ""))
		does(t, p, cleans(3, slot), in(in(p, slot, ""), 3, ""))
	}
	does(t, heapPage("1", "2", "3"), cleans(2, 0, 1, 0), heapPage("", "", ""))
	does(t, heapPage(), cleans(), heapPage())
	// Its other slots are not a Clean's.
	r := cleans(1)
	r.More, r.Slot = []int{0, 99}, 2
	does(t, heapPage("1", "2", "3"), r, heapPage("1", "", "3"))
}

func TestCleanOfNoSlot(t *testing.T) {
	for _, slot := range append([]int{2, 3, 258}, noSlots...) {
		for _, r := range []api.Record{cleans(slot), cleans(0, slot), cleans(slot, 1), cleans(0, 1, slot, 0)} {
			fails(t, heapPage("1", "2"), r, api.ErrTuple)
			fails(t, heapPage(), r, api.ErrTuple)
		}
	}
	fails(t, heapPage(), cleans(0), api.ErrTuple)
}

func freezes(slots, more []int) api.Record {
	return api.Record{Kind: api.Freeze, Slots: slots, More: more}
}

func TestFreeze(t *testing.T) {
	for _, v := range []api.Tuple{ax, ended, longest} {
		p := heapPage("", bytesOf(ended), bytesOf(v), "\x05", deadOf("a"))
		cold, endless, both := v, v, v
		cold.Frozen, endless.Xmax, both.Frozen, both.Xmax = true, 0, true, 0
		does(t, p, freezes(nil, nil), p)
		for _, slots := range [][]int{{2}, {2, 2}} {
			does(t, p, freezes(slots, nil), in(p, 2, bytesOf(cold)))
			does(t, p, freezes(nil, slots), in(p, 2, bytesOf(endless)))
			does(t, p, freezes(slots, slots), in(p, 2, bytesOf(both)))
		}
		first := ended
		first.Frozen = true
		does(t, p, freezes([]int{2, 1}, []int{2}), in(in(p, 1, bytesOf(first)), 2, bytesOf(both)))
		first.Xmax = 0
		does(t, p, freezes([]int{1, 2}, []int{2, 1}), in(in(p, 1, bytesOf(first)), 2, bytesOf(both)))
		// One slot is named twice by two lists, another one by each list alone.
		first.Frozen = false
		does(t, p, freezes([]int{2}, []int{1}), in(in(p, 1, bytesOf(first)), 2, bytesOf(cold)))
	}
}

func TestFreezeOfNoVersion(t *testing.T) {
	refuses := func(p api.Page, slot int) {
		t.Helper()
		for _, list := range [][]int{{slot}, {0, slot}, {slot, 0}} {
			fails(t, p, freezes(list, nil), api.ErrTuple)
			fails(t, p, freezes(nil, list), api.ErrTuple)
			fails(t, p, freezes([]int{0}, list), api.ErrTuple)
			fails(t, p, freezes(list, []int{0}), api.ErrTuple)
			fails(t, p, freezes(list, list), api.ErrTuple)
		}
	}
	for _, item := range notLive() {
		refuses(heapPage(bytesOf(ax), item), 1)
	}
	for _, slot := range append([]int{1, 2, 256}, noSlots...) {
		refuses(heapPage(bytesOf(ax)), slot)
		refuses(heapPage(), slot)
	}
}

// These make no page longer, and ask for no room: neither in a full page, nor in one that is too long already.
func TestNoRoomIsAskedFor(t *testing.T) {
	full := 512 - 20 - 2 - 2 - len(bytesOf(ax))
	for _, n := range []int{full, full + 1, 600} {
		p := heapPage(bytesOf(ax), strings.Repeat("z", n))
		v := ax
		v.Xmax = 1024
		isMarked(t, p, 0, 0, 1024, in(p, 0, bytesOf(v)))
		does(t, p, undoes(0), in(p, 0, deadOf("a")))
		does(t, p, cleans(0), in(p, 0, ""))
		v.Xmax, v.Frozen = 0, true
		does(t, p, freezes([]int{0}, []int{0}), in(p, 0, bytesOf(v)))
	}
}

func enters(data string) api.Record { return api.Record{Kind: api.EntryIn, Data: data} }

func leaves(data string) api.Record { return api.Record{Kind: api.EntryOut, Data: data} }

var (
	a1 = entry("a", 1, 0)
	a2 = entry("a", 2, 0)
	b1 = entry("b", 1, 0)
	c1 = entry("c", 1, 0)
)

// bounded is a node of another Right and High.
func bounded(p api.Page, right int, high api.Entry) api.Page {
	p.Right, p.High = right, itemOf(high)
	return p
}

func TestEntryIn(t *testing.T) {
	does(t, leafOf(), enters(itemOf(a1)), leafOf(a1))
	does(t, leafOf(a2, b1), enters(itemOf(a1)), leafOf(a1, a2, b1))
	does(t, leafOf(a1, b1), enters(itemOf(a2)), leafOf(a1, a2, b1))
	does(t, leafOf(a1, a2), enters(itemOf(b1)), leafOf(a1, a2, b1))
	does(t, bounded(leafOf(a1), 9, b1), enters(itemOf(b1)), bounded(leafOf(a1, b1), 9, b1))
}

func TestEntryInAboveTheLeaves(t *testing.T) {
	for _, level := range []int{1, 2, 255} {
		p, q := innerOf(a1, c1), innerOf(a1, c1)
		p.Level, q.Level = level, level
		q.Items = slices.Insert(q.Items, 2, sepOf(b1, 9))
		does(t, p, enters(sepOf(b1, 9)), q)
	}
	does(t, bounded(innerOf(a1), 9, c1), enters(sepOf(b1, 32)), bounded(innerOf(a1, b1), 9, c1))
	does(t, innerOf(), enters(sepOf(b1, 31)), innerOf(b1))
}

func TestEntryInOfWhatCannotBe(t *testing.T) {
	wrong := []string{"", "x", "\x00\x00\x00", "\x01a\x01", "\x01a\x01\x00\x00\x00", bytesOf(ax), strings.Repeat("z", 600)}
	for _, data := range wrong {
		fails(t, leafOf(a1), enters(data), api.ErrNode)
		fails(t, innerOf(a1), enters(data), api.ErrNode)
	}
	// Each level has items of its own.
	fails(t, leafOf(a1), enters(sepOf(b1, 9)), api.ErrNode)
	fails(t, innerOf(a1), enters(itemOf(b1)), api.ErrNode)
	fails(t, innerOf(a1), enters(sepOf(api.Entry{}, 9)), api.ErrNode)

	fails(t, leafOf(a1), enters(itemOf(a1)), api.ErrNode)
	fails(t, innerOf(a1), enters(sepOf(a1, 9)), api.ErrNode)
	fails(t, bounded(leafOf(a1), 9, b1), enters(itemOf(c1)), api.ErrNode)
	fails(t, bounded(innerOf(a1), 9, b1), enters(sepOf(b1, 9)), api.ErrNode)
}

func TestEntryInOfNoNode(t *testing.T) {
	for _, level := range []int{math.MinInt, -1, 256, math.MaxInt} {
		p := innerOf(a1)
		p.Level = level
		fails(t, p, enters(sepOf(b1, 9)), api.ErrNode)
		fails(t, p, enters(itemOf(b1)), api.ErrNode)
	}
	for _, p := range []api.Page{heapPage(), statuses(), {}, leafOf(b1, a1), {Kind: api.NodePage, Level: 1}} {
		fails(t, p, enters(itemOf(c1)), api.ErrNode)
		fails(t, p, enters(sepOf(c1, 9)), api.ErrNode)
		fails(t, p, leaves(itemOf(a1)), api.ErrNode)
	}
}

// numbered are entries that rise with their numbers; each one's bytes are seven, and its separator's eight.
func numbered(n int) []api.Entry {
	var list []api.Entry
	for i := range n {
		list = append(list, entry(fmt.Sprintf("k%03d", i), 1, 1))
	}
	return list
}

func TestEntryInWithoutRoom(t *testing.T) {
	// 20 and 54 times 9 are 506: there is room for an item of 4 bytes, and none for one of 5.
	p := leafOf(numbered(54)...)
	short, long := entry("z", 0, 0), entry("zz", 0, 0)
	q := p
	q.Items = append(slices.Clone(p.Items), itemOf(short))
	does(t, p, enters(itemOf(short)), q)
	fails(t, p, enters(itemOf(long)), api.ErrLong)
	fails(t, p, enters(itemOf(numbered(1)[0])), api.ErrNode)

	// 20, 6 and 48 times 10 are 506: there is room for an item of 4 bytes, which a separator has not.
	p = innerOf(numbered(48)...)
	if page.Size(p) != 506 {
		t.Fatal(page.Size(p))
	}
	fails(t, p, enters(sepOf(short, 9)), api.ErrLong)
	p = innerOf(numbered(47)...)
	q = p
	q.Items = append(slices.Clone(p.Items), sepOf(short, 9))
	does(t, p, enters(sepOf(short, 9)), q)
}

func TestEntryOut(t *testing.T) {
	does(t, leafOf(a1), leaves(itemOf(a1)), leafOf())
	does(t, leafOf(a1, a2, b1), leaves(itemOf(a2)), leafOf(a1, b1))
	does(t, bounded(leafOf(a1, b1), 9, b1), leaves(itemOf(b1)), bounded(leafOf(a1), 9, b1))
}

func TestEntryOutOfWhatIsNotThere(t *testing.T) {
	for _, data := range []string{"", "x", "\x00\x00\x00", sepOf(a1, 9), bytesOf(ax), itemOf(b1), itemOf(entry("a", 1, 1))} {
		fails(t, leafOf(a1, a2), leaves(data), api.ErrNode)
		fails(t, leafOf(), leaves(data), api.ErrNode)
	}
	fails(t, innerOf(a1), leaves(itemOf(a1)), api.ErrNode)
	fails(t, innerOf(a1), leaves(sepOf(a1, 31)), api.ErrNode)
}

// How transactions end, as records tell it, and as the page of statuses keeps it.
var ends = []struct {
	kind   api.Kind
	status api.Status
}{{api.Commited, api.Committed}, {api.RolledBack, api.Aborted}}

func TestEndsOfTransactions(t *testing.T) {
	for _, end := range ends {
		for _, was := range []api.Status{api.Unknown, api.Running, api.Committed, api.Aborted} {
			p := statuses(slices.Repeat([]api.Status{was}, 16)...)
			for x := 1; x <= 16; x++ {
				// What a Mark or a Cut would read does not matter.
				r := api.Record{Kind: end.kind, Xid: x, Old: 7, New: 8}
				does(t, p, r, sure(clog.Set(16, p, x, end.status)))
			}
		}
	}
}

func TestEndsOfNobody(t *testing.T) {
	for _, end := range ends {
		for _, x := range []int{math.MinInt, -1, 0, 17, 1024, math.MaxInt} {
			fails(t, statuses(), api.Record{Kind: end.kind, Xid: x, New: 4}, api.ErrArg)
		}
	}
	for _, x := range []int{math.MinInt, -1, 0, 17, 1024, math.MaxInt} {
		fails(t, statuses(), api.Record{Kind: api.Cut, New: x, Xid: 4}, api.ErrArg)
	}
}

// ofStatuses are records that a page of statuses can take, with the modulus 16.
func ofStatuses() []api.Record {
	return []api.Record{{Kind: api.Commited, Xid: 4}, {Kind: api.RolledBack, Xid: 4}, {Kind: api.Cut, New: 4}}
}

func TestStatusesOfNoModulus(t *testing.T) {
	for _, r := range ofStatuses() {
		for _, modulus := range noModuli {
			failsWith(t, modulus, statuses(), r, api.ErrArg)
			failsWith(t, modulus, heapPage(), r, api.ErrArg)
		}
		for _, modulus := range []int{18, 64, 1024} {
			failsWith(t, modulus, statuses(), r, api.ErrBody)
		}
	}
}

func TestStatusesOfAnotherPage(t *testing.T) {
	for _, r := range ofStatuses() {
		for _, p := range []api.Page{{}, heapPage(), leafOf(), later(statuses(), -1), {Kind: api.ClogPage, Items: []string{"\x03"}}} {
			fails(t, p, r, api.ErrBody)
		}
		r.Xid, r.New = 0, 0
		fails(t, heapPage(), r, api.ErrBody)
	}
}

func TestStatusesOfOtherModuli(t *testing.T) {
	for _, modulus := range []int{16, 18, 300, 1024} {
		p := sure(clog.Blank(modulus, 1))
		p = later(sure(clog.Set(modulus, p, 1, api.Running)), 5)
		for _, x := range []int{1, 2, modulus - 1, modulus} {
			for _, end := range ends {
				r := at(api.Record{Kind: end.kind, Xid: x})
				doesWith(t, modulus, p, 7, r, later(sure(clog.Set(modulus, p, x, end.status)), 9))
			}
			r := at(api.Record{Kind: api.Cut, New: x})
			doesWith(t, modulus, p, 7, r, later(sure(clog.Cut(modulus, p, x)), 9))
		}
	}
}

func TestCut(t *testing.T) {
	p := statuses(slices.Repeat([]api.Status{api.Aborted}, 16)...)
	for x := 1; x <= 16; x++ {
		does(t, p, api.Record{Kind: api.Cut, New: x, Xid: 2, Old: 7}, sure(clog.Cut(16, p, x)))
	}
	// From the limit 3 on: 3 and 4 are forgotten.
	want := p
	for _, x := range []int{3, 4} {
		want = sure(clog.Set(16, want, x, api.Unknown))
	}
	does(t, p, api.Record{Kind: api.Cut, New: 5}, in(want, 0, "\x05"))
}
