package session_test

import (
	"math"
	"reflect"
	"slices"
	"testing"

	"almonry/api"
	"almonry/blink"
	"almonry/heap"
	"almonry/node"
)

// inserted is the Insert of a version of the own transaction.
func inserted(page, slot int, key, value string) api.Record {
	return api.Record{Kind: api.Insert, Xid: own, Page: page, Slot: slot, Data: bytesOf(api.Tuple{Xmin: own, Key: key, Value: value})}
}

// entering is a plan of a Put that has laid its version, and wants page 1, to enter the entry (key, 2, 0).
func entering(t *testing.T, key string) *talk {
	t.Helper()
	k := locked(t, put(key, "v"))
	k.shown(1, leafOf())
	k.Space(2)
	k.logs(2, heapOf(), inserted(2, 0, key, "v"))
	return k
}

// ending is a plan that wants the page 2 of a version in slot 1 that is to end.
func ending(t *testing.T, a api.Ask) *talk {
	t.Helper()
	k := locked(t, a)
	k.shown(1, leafOf(entry(a.Key, 2, 1)))
	k.shown(2, heapOf(api.Tuple{Xmin: 1, Key: a.Key}, api.Tuple{Xmin: 1, Key: a.Key}))
	return k
}

func enterRecord(body api.Page, page int, item string, fresh ...int) api.Record {
	r := sure(blink.Enter(body, page, item, fresh...))
	r.Xid = own
	return r
}

// P19.4

func TestEnding(t *testing.T) {
	one := api.Tuple{Xmin: 1, Key: "a"}
	for _, old := range []int{0, 2, 1024} {
		body := heapOf(one, api.Tuple{Xmin: 1, Xmax: old, Key: "a"})
		want := api.Record{Kind: api.Mark, Xid: own, Page: 2, Slot: 1, Old: old, New: own}
		k := ending(t, remove("a"))
		k.logs(2, body, want)
		k.ends(found)
		k = ending(t, put("a", "v"))
		k.logs(2, body, want)
		k.wants(spaceWant(9))
	}
}

func TestEndingThatFails(t *testing.T) {
	full := fullHeap()
	full.Items = append(full.Items, bytesOf(api.Tuple{Xmin: 1, Key: "a"}))
	for _, a := range writers("a") {
		for _, c := range []struct {
			body api.Page
			err  api.Errno
		}{
			{api.Page{}, api.ErrSlot}, {leafOf(), api.ErrSlot}, {heapOf(), api.ErrSlot}, {heapOf(api.Tuple{Xmin: 1, Key: "a"}), api.ErrSlot},
			{api.Page{Kind: api.HeapPage, Items: []string{"", ""}}, api.ErrSlot},
			{heapOf(api.Tuple{Xmin: 1, Key: "a"}, api.Tuple{Xmin: 1, Xmax: own, Key: "a"}), api.ErrArg},
			{full, api.ErrRoom},
		} {
			if _, err := heap.Mark(c.body, 2, 1, own); err != c.err {
				t.Fatalf("Mark of %+v: %v, want %v", c.body, err, c.err)
			}
			k := ending(t, a)
			k.shown(2, c.body)
			k.ends(errReply(c.err))
		}
	}
}

func TestNoneToEnd(t *testing.T) {
	k := locked(t, remove("a"))
	k.shown(1, leafOf(entry("b", 2, 0)))
	k.ends(api.Reply{})
	k = locked(t, put("a", "v"))
	k.shown(1, leafOf(entry("b", 2, 0)))
	k.wants(spaceWant(9))
}

// P19.5

func TestSpaceForTheVersion(t *testing.T) {
	for _, c := range []struct {
		key, value string
		size       int
	}{{"a", "", 8}, {"a", "v", 9}, {longKey, "", 31}, {"a", longValue, 72}, {longKey, longValue, 95}} {
		k := locked(t, put(c.key, c.value))
		k.shown(1, leafOf())
		k.wants(spaceWant(c.size))
		k.Space(9)
		k.logs(9, heapOf(), inserted(9, 0, c.key, c.value))
		k.logs(1, leafOf(), enterRecord(leafOf(), 1, itemOf(entry(c.key, 9, 0))))
		k.ends(api.Reply{})
	}
}

func TestLaying(t *testing.T) {
	one := bytesOf(api.Tuple{Xmin: 1, Key: "a"})
	for _, c := range []struct {
		items []string
		slot  int
	}{{nil, 0}, {[]string{one}, 1}, {[]string{"", one}, 0}, {[]string{one, "", ""}, 1}, {[]string{"\x04\x01a", one}, 2}} {
		k := locked(t, put("a", "v"))
		k.shown(1, leafOf())
		k.Space(7)
		k.logs(7, api.Page{Kind: api.HeapPage, Items: c.items}, inserted(7, c.slot, "a", "v"))
		k.logs(1, leafOf(), enterRecord(leafOf(), 1, itemOf(entry("a", 7, c.slot))))
		k.ends(api.Reply{})
	}
}

func TestNoRoomAfterAll(t *testing.T) {
	for _, a := range []api.Ask{put("a", "v"), put(longKey, longValue)} {
		k := locked(t, a)
		k.shown(1, leafOf())
		want := k.Want()
		for page := range 5 {
			k.Space(page)
			k.shown(page, fullHeap())
			k.wants(want)
		}
		k.Space(9)
		k.logs(9, heapOf(), inserted(9, 0, a.Key, a.Value))
	}
}

func TestLayingIntoAnOddPage(t *testing.T) {
	for _, odd := range []api.Page{{}, leafOf(), view().Clog, {Kind: -2}, {Kind: 4}} {
		k := locked(t, put("a", "v"))
		k.shown(1, leafOf())
		k.Space(2)
		k.shown(2, odd)
		k.ends(errReply(api.ErrPage))
	}
}

// Own ids that no version can have are none for New: they are refused where they are to be laid.
func TestOwnBeyondAVersions(t *testing.T) {
	for _, id := range []int{1025, math.MaxInt} {
		k := begun(t, put("a", "v"), id)
		k.Lock(true, api.OK)
		k.shown(1, leafOf())
		k.wants(spaceWant(0))
		k.Space(2)
		k.shown(2, heapOf())
		k.ends(errReply(api.ErrPage))
		k = begun(t, remove("a"), id)
		k.Lock(true, api.OK)
		k.shown(1, leafOf(entry("a", 2, 0)))
		k.shown(2, heapOf(api.Tuple{Xmin: 1, Key: "a"}))
		k.shown(2, heapOf(api.Tuple{Xmin: 1, Key: "a"}))
		k.ends(errReply(api.ErrArg))
	}
}

// Numbers that no entry can have are refused where the entry is to come in.
func TestSpaceInOddPlaces(t *testing.T) {
	for _, page := range []int{math.MinInt, -1, 65536, math.MaxInt} {
		for _, body := range []api.Page{leafOf(), innerOf(1), fullLeaf(), bounded(leafOf(), 7, entry("A", 0, 0))} {
			k := locked(t, put("a", "v"))
			k.shown(1, leafOf())
			k.Space(page)
			k.logs(page, heapOf(), inserted(page, 0, "a", "v"))
			if got := k.Need(body); got != 0 {
				t.Errorf("needs %d for page %d", got, page)
			}
			k.shown(1, body)
			k.ends(errReply(api.ErrPage))
		}
	}
	for _, page := range []int{0, 1, 65535} {
		k := locked(t, put("a", "v"))
		k.shown(1, leafOf())
		k.Space(page)
		k.logs(page, heapOf(), inserted(page, 0, "a", "v"))
		k.logs(1, leafOf(), enterRecord(leafOf(), 1, itemOf(entry("a", page, 0))))
		k.ends(api.Reply{})
	}
}

// P19.6

func TestEnteringWhereTheEntryBelongs(t *testing.T) {
	// (k, 2, 0) is not what was looked for, (k, 0, 0): the leaf may be another one.
	k := entering(t, "k")
	k.shown(1, innerOf(2, entry("k", 2, 0), entry("k", 2, 1)))
	k.shown(30, innerOf(1, entry("k", 1, 9), entry("k", 2, 0)))
	k.shown(31, bounded(leafOf(), 7, entry("k", 1, 10)))
	k.shown(7, bounded(leafOf(), 8, entry("k", 1, 65535)))
	leaf := bounded(leafOf(entry("k", 2, 3)), 9, entry("l", 0, 0))
	if got := k.Need(leaf); got != 0 {
		t.Errorf("needs %d", got)
	}
	k.logs(8, leaf, api.Record{Kind: api.EntryIn, Xid: own, Page: 8, Data: itemOf(entry("k", 2, 0))})
	k.ends(api.Reply{})
}

func TestFoundOfAPut(t *testing.T) {
	k := ending(t, put("a", "v"))
	body := heapOf(api.Tuple{Xmin: 1, Key: "a"}, api.Tuple{Xmin: 1, Key: "a"})
	k.logs(2, body, api.Record{Kind: api.Mark, Xid: own, Page: 2, Slot: 1, New: own})
	k.Space(2)
	k.logs(2, body, inserted(2, 2, "a", "v"))
	k.logs(1, leafOf(), enterRecord(leafOf(), 1, itemOf(entry("a", 2, 2))))
	k.ends(found)
}

func TestAnEntryThatIsThere(t *testing.T) {
	for _, body := range []api.Page{leafOf(entry("k", 2, 0)), leafOf(entry("j", 1, 1), entry("k", 2, 0), entry("k", 2, 1))} {
		for _, fresh := range [][]int{nil, {9}, {0, 0, 0}} {
			k := entering(t, "k")
			if got := k.Need(body); got != 0 {
				t.Errorf("needs %d", got)
			}
			k.shown(1, body, fresh...)
			k.ends(api.Reply{})
		}
	}
}

func TestOddPagesWhereItEnters(t *testing.T) {
	for _, odd := range oddPages() {
		k := entering(t, "k")
		if got := k.Need(odd); got != 0 {
			t.Errorf("needs %d of %+v", got, odd)
		}
		k.shown(1, odd)
		k.ends(errReply(api.ErrPage))
		k = entering(t, "k")
		k.shown(1, innerOf(1))
		if got := k.Need(odd); got != 0 {
			t.Errorf("needs %d of %+v", got, odd)
		}
		k.shown(30, odd, 9)
		k.ends(errReply(api.ErrPage))
	}
}

func TestTheRootIsSplit(t *testing.T) {
	for _, body := range []api.Page{fullLeaf(), bounded(fullLeaf(), 7, entry("z", 0, 0))} {
		for _, key := range []string{"k001", "k055", "k107"} {
			k := entering(t, key)
			for range 2 {
				if got := k.Need(body); got != 2 {
					t.Errorf("needs %d", got)
				}
			}
			k.logs(1, body, enterRecord(body, 1, itemOf(entry(key, 2, 0)), 8, 9), 8, 9)
			k.ends(api.Reply{})
		}
	}
}

func TestUpTheTree(t *testing.T) {
	k := entering(t, "k001")
	top := innerOf(2)
	k.shown(1, top)
	k.shown(30, innerOf(1))
	leaf := fullLeaf()
	if got := k.Need(leaf); got != 1 {
		t.Errorf("needs %d", got)
	}
	r := enterRecord(leaf, 30, itemOf(entry("k001", 2, 0)), 9)
	k.logs(30, leaf, r, 9)

	// Into the level above comes what separates both, and the new page.
	e, child, ok := blink.Above(r)
	if !ok || child != 9 {
		t.Fatalf("Above: %v %d %v", e, child, ok)
	}
	if got := k.Need(leaf); got != 0 {
		t.Errorf("needs %d of what is not its level", got)
	}
	k.shown(1, top)
	ahead := bounded(innerOf(1), 40, entry("k000", 0, 0))
	if got := k.Need(ahead); got != 0 {
		t.Errorf("needs %d of what is not the node yet", got)
	}
	k.shown(30, ahead)
	full := fullInner(1)
	item := sure(node.Sep(e, child))
	if got := k.Need(full); got != 1 {
		t.Errorf("needs %d", got)
	}
	r = enterRecord(full, 40, item, 10)
	k.logs(40, full, r, 10)

	e, child, _ = blink.Above(r)
	item = sure(node.Sep(e, child))
	if got := k.Need(top); got != 0 {
		t.Errorf("needs %d", got)
	}
	k.logs(1, top, api.Record{Kind: api.EntryIn, Xid: own, Page: 1, Data: item})
	k.ends(api.Reply{})
}

// above is a plan that has split a leaf on page 30, and goes down for the level above; and what has to come in there.
func above(t *testing.T) (*talk, string) {
	t.Helper()
	k := entering(t, "k001")
	k.shown(1, innerOf(1))
	leaf := fullLeaf()
	r := enterRecord(leaf, 30, itemOf(entry("k001", 2, 0)), 9)
	k.logs(30, leaf, r, 9)
	e, child, _ := blink.Above(r)
	return k, sure(node.Sep(e, child))
}

func TestAboveTheLeaves(t *testing.T) {
	k, item := above(t)
	k.logs(1, innerOf(1), api.Record{Kind: api.EntryIn, Xid: own, Page: 1, Data: item})
	k.ends(api.Reply{})
	// It is there already, with whatever child.
	e, child, _ := node.Unsep(item)
	for _, other := range []int{child, child + 1} {
		body := api.Page{Kind: api.NodePage, Level: 1, Items: []string{sure(node.Sep(api.Entry{}, 30)), sure(node.Sep(e, other))}}
		k, _ = above(t)
		k.shown(1, body)
		k.ends(api.Reply{})
	}
	// There is no such level.
	for _, body := range append(oddPages(), leafOf(), fullLeaf()) {
		k, _ = above(t)
		if got := k.Need(body); got != 0 {
			t.Errorf("needs %d of %+v", got, body)
		}
		k.shown(1, body, 12)
		k.ends(errReply(api.ErrPage))
	}
	// What separates is its High already: it does not come in there.
	k, _ = above(t)
	k.shown(1, bounded(innerOf(1), 7, e))
	k.ends(errReply(api.ErrPage))
}

func TestTheRootIsSplitAboveTheLeaves(t *testing.T) {
	k, item := above(t)
	root := fullInner(1)
	if got := k.Need(root); got != 2 {
		t.Errorf("needs %d", got)
	}
	k.logs(1, root, enterRecord(root, 1, item, 11, 12), 11, 12)
	k.ends(api.Reply{})
}

func TestOneWayUpIsCountedByItself(t *testing.T) {
	ring := bounded(innerOf(1), 1, entry("A", 0, 0))
	k, item := above(t)
	for range 4095 {
		k.Page(k.v, ring)
	}
	k.logs(1, innerOf(1), api.Record{Kind: api.EntryIn, Xid: own, Page: 1, Data: item})
	k.ends(api.Reply{})
	k, _ = above(t)
	for range 4096 {
		k.wants(pageWant(1))
		k.Page(k.v, ring)
	}
	k.ends(errReply(api.ErrPage))
}

// P19.7

func TestFreshPagesThatAreNotNeeded(t *testing.T) {
	for _, c := range []struct {
		body  api.Page
		fresh [][]int
	}{
		{leafOf(), [][]int{{9}, {9, 10}, {0}}},
		{fullLeaf(), [][]int{nil, {9}, {9, 10, 11}, {9, 9}, {1, 9}, {9, 1}, {0, 9}, {9, -1}, {math.MinInt, 9}}},
	} {
		for _, fresh := range c.fresh {
			k := entering(t, "k001")
			k.shown(1, c.body, fresh...)
			k.ends(errReply(api.ErrFull))
		}
	}
	for _, fresh := range [][]int{nil, {9, 10}, {1}, {0}, {-1}} {
		k := entering(t, "k001")
		k.shown(1, innerOf(1), 9) // it is not the node: these are not asked for
		k.shown(30, fullLeaf(), fresh...)
		k.ends(errReply(api.ErrFull))
		k, _ = above(t)
		k.shown(1, bounded(innerOf(1), 40, entry("A", 0, 0)))
		k.shown(40, fullInner(1), fresh...)
		k.ends(errReply(api.ErrFull))
	}
	// A page that no node can name is an error of another kind.
	k := entering(t, "k001")
	k.shown(1, fullLeaf(), 9, 65536)
	k.ends(errReply(api.ErrPage))
}

// R2: what is handed in is neither changed nor kept, and a record is the caller's.
func TestRecordsAreTheCallers(t *testing.T) {
	k := entering(t, "k001")
	k.shown(1, innerOf(1))
	leaf, fresh := fullLeaf(), []int{9, 77}
	items := slices.Clone(leaf.Items)
	r, is := k.Page(k.v, leaf, fresh[:1]...)
	want := enterRecord(fullLeaf(), 30, itemOf(entry("k001", 2, 0)), 9)
	if !is || !reflect.DeepEqual(r, want) || !slices.Equal(leaf.Items, items) || !slices.Equal(fresh, []int{9, 77}) {
		t.Fatalf("logs %+v, leaf %q, fresh %v", r, leaf.Items, fresh)
	}
	for i := range r.Images {
		for j := range r.Images[i].Body.Items {
			r.Images[i].Body.Items[j] = "spoilt"
		}
		r.Images[i] = api.Image{}
	}
	fresh[0] = 0
	if !slices.Equal(leaf.Items, items) {
		t.Error("the record shares the leaf's items")
	}
	e, child, _ := blink.Above(want)
	k.logs(1, innerOf(1), api.Record{Kind: api.EntryIn, Xid: own, Page: 1, Data: sure(node.Sep(e, child))})
	k.ends(api.Reply{})
}
