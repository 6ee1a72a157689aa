package session_test

import (
	"fmt"
	"reflect"
	"slices"
	"strings"
	"testing"

	"almonry/api"
)

// P19.3

// oddPages are none that may stand in a tree.
func oddPages() []api.Page {
	unsorted := leafOf(entry("b", 1, 0), entry("a", 1, 0))
	tooLong := leafOf()
	for n := range 30 {
		tooLong.Items = append(tooLong.Items, itemOf(entry(longKey, 2, n)))
	}
	return []api.Page{{}, heapOf(), view().Clog, unsorted, tooLong, innerOf(256), {Kind: api.NodePage, Level: 1}, {Kind: api.NodePage, Level: -1}, {LSN: -1, Kind: api.NodePage}}
}

// writers are the calls that look at a key to change it.
func writers(key string) []api.Ask { return []api.Ask{put(key, "new"), remove(key)} }

// looking is a plan that wants page 1 first.
func looking(t *testing.T, a api.Ask) *talk {
	t.Helper()
	if a.Call == api.Put || a.Call == api.Delete {
		return locked(t, a)
	}
	return begun(t, a, 0)
}

// lookers are calls that look from the key a on.
func lookers() []api.Ask { return append(writers("a"), get("a"), scan("a", "", 3), scan("a", "c", 3)) }

func TestOddPagesOnTheWay(t *testing.T) {
	for _, a := range lookers() {
		for i, odd := range oddPages() {
			k := looking(t, a)
			k.shown(1, odd)
			k.ends(errReply(api.ErrPage))
			k = looking(t, a)
			k.shown(1, innerOf(1))
			k.shown(30, odd)
			k.ends(errReply(api.ErrPage))
			k = looking(t, a)
			k.shown(1, bounded(leafOf(), 7, entry("A", 0, 0)))
			k.shown(7, odd)
			k.ends(errReply(api.ErrPage))
			if t.Failed() {
				t.Fatalf("odd page %d of %+v", i, a)
			}
		}
	}
}

func TestDownTheTree(t *testing.T) {
	top := bounded(innerOf(2, entry("a", 0, 0), entry("b", 0, 0)), 8, entry("c", 0, 0))
	for _, c := range []struct {
		ask api.Ask
		to  int
	}{
		{get("a"), 30}, // (a, 0, 0) itself is not behind that separator
		{get("a\x00"), 31}, {get("b"), 31}, {get("ba"), 32}, {get("c"), 32},
		{get("c\x00"), 8}, {scan("", "", 3), 30}, {scan("", "a", 3), 30}, {scan("zz", "b", 3), 8},
	} {
		k := looking(t, c.ask)
		k.shown(1, top)
		k.shown(c.to, innerOf(1))
		k.shown(30, leafOf())
		k.ends(api.Reply{})
	}
	// To the right on each level.
	k := looking(t, get("x"))
	k.shown(1, bounded(innerOf(1), 5, entry("m", 0, 0)))
	k.shown(5, bounded(innerOf(1), 6, entry("w", 9, 9)))
	k.shown(6, innerOf(1, entry("b", 0, 0)))
	k.shown(31, bounded(leafOf(entry("a", 2, 0)), 7, entry("m", 0, 0)))
	k.shown(7, bounded(leafOf(), 0, entry("n", 0, 0))) // whatever a page says
	k.shown(0, leafOf())
	k.ends(api.Reply{})
}

// A Scan without a Key begins at the entry (byte 00, 0, 0).
func TestScanFromTheBeginning(t *testing.T) {
	k := looking(t, scan("", "", 3))
	k.shown(1, innerOf(1, entry("\x00", 0, 0)))
	k.shown(30, leafOf())
	k.ends(api.Reply{})
	k = looking(t, scan("", "", 3))
	k.shown(1, bounded(leafOf(entry("\x00", 0, 0)), 7, entry("\x00", 0, 0)))
	k.shown(0, heapOf(api.Tuple{Xmin: 1, Key: "\x00", Value: "x"}))
	k.shown(7, leafOf())
	k.ends(rows("\x00", "x"))
}

func TestAsManyPagesAsOneWayHas(t *testing.T) {
	ring := innerOf(1)
	ring.Right, ring.High = 1, itemOf(entry("A", 0, 0))
	walked := func(a api.Ask, pages int) *talk {
		t.Helper()
		k := looking(t, a)
		for range pages {
			if k.Want() != pageWant(1) {
				t.Fatalf("wants %+v", k.Want())
			}
			k.Page(k.v, ring)
		}
		return k
	}
	for _, a := range lookers() {
		k := walked(a, 4095)
		k.wants(pageWant(1))
		k.shown(1, ring)
		k.ends(errReply(api.ErrPage))
	}
	k := walked(get("a"), 4095)
	k.shown(1, leafOf(entry("a", 2, 0)))
	k.shown(2, heapOf(api.Tuple{Xmin: 1, Key: "a", Value: "x"}))
	k.ends(api.Reply{Found: true, Value: "x"})
	// Each way down is counted by itself, and neighbours of the leaf are not.
	k = walked(put("a", ""), 4000)
	k.shown(1, leafOf())
	k.Space(2)
	k.Page(k.v, heapOf())
	for range 4000 {
		k.Page(k.v, ring)
	}
	k.wants(pageWant(1))
	k.Page(k.v, leafOf())
	k.ends(api.Reply{})
	k = walked(scan("B", "", 3), 4000)
	for range 4000 {
		leaf := leafOf()
		leaf.Right = 1
		k.shown(1, leaf)
	}
	k.wants(pageWant(1))
	k.shown(1, leafOf())
	k.ends(api.Reply{})
}

// Of a leaf the entries from Key on, below To, or of the Key alone.
func TestWhichEntriesAreLookedAt(t *testing.T) {
	keys := []string{"A", "a", "a\x00", "ab", "b", "b\x00", "c", longKey}
	var list []api.Entry
	for i, key := range keys {
		list = append(list, entry(key, 100+2*i, 5), entry(key, 101+2*i, 3))
	}
	leaf := leafOf(list...)
	for _, c := range []struct {
		ask  api.Ask
		keys []string
	}{
		{get("a"), []string{"a"}}, {get("b"), []string{"b"}}, {get("B"), nil}, {get(longKey), []string{longKey}},
		{get("a\x00"), []string{"a\x00"}}, {get("\x00"), nil}, {get("z"), nil},
		{scan("", "", 16), keys}, {scan("a", "", 16), keys[1:]}, {scan("a", "b", 16), []string{"a", "a\x00", "ab"}},
		{scan("", "a", 16), []string{"A"}}, {scan("b", "b\x00", 16), []string{"b"}}, {scan("b", "b", 16), nil},
		{scan("c", "a", 16), nil}, {scan("cc", longKey, 16), nil}, {scan("cc", "", 16), []string{longKey}},
	} {
		var pages []int
		for i, key := range keys {
			if slices.Contains(c.keys, key) {
				pages = append(pages, 100+2*i, 101+2*i)
			}
		}
		k := looking(t, c.ask)
		k.shown(1, leaf)
		for _, page := range pages {
			k.shown(page, heapOf())
		}
		k.ends(api.Reply{})
		if t.Failed() {
			t.Fatalf("%+v", c.ask)
		}
	}
}

// meets are versions, and what they are to the view.
var meets = []struct {
	is             api.Tuple
	visible, newer bool
}{
	{api.Tuple{Xmin: 1}, true, false},
	{api.Tuple{Xmin: 3}, true, false},
	{api.Tuple{Xmin: 9, Frozen: true}, true, false},
	{api.Tuple{Xmin: own}, true, false},
	{api.Tuple{Xmin: 1, Xmax: 2}, true, false},
	{api.Tuple{Xmin: 1, Xmax: 4}, true, false},
	{api.Tuple{Xmin: 1, Xmax: 3}, false, false},
	{api.Tuple{Xmin: 1, Xmax: own}, false, false},
	{api.Tuple{Xmin: 2}, false, false},
	{api.Tuple{Xmin: 4}, false, false},
	{api.Tuple{Xmin: 12}, false, false},
	{api.Tuple{Xmin: 6}, false, true},
	{api.Tuple{Xmin: 6, Xmax: 6}, false, true},
	{api.Tuple{Xmin: 1, Xmax: 6}, true, true},
	{api.Tuple{Xmin: 9, Frozen: true, Xmax: 6}, true, true},
}

func TestWhatAVersionIsToACall(t *testing.T) {
	leaf := leafOf(entry("a", 2, 0))
	for _, m := range meets {
		v := m.is
		v.Key, v.Value = "a", "x"
		for _, a := range lookers() {
			k := looking(t, a)
			k.shown(1, leaf)
			k.shown(2, heapOf(v))
			switch {
			case a.Call == api.Get && m.visible:
				k.ends(api.Reply{Found: true, Value: "x"})
			case a.Call == api.Scan && m.visible:
				k.ends(rows("a", "x"))
			case a.Call == api.Get || a.Call == api.Scan:
				k.ends(api.Reply{})
			case m.newer:
				k.ends(errReply(api.ErrConflict))
			case m.visible:
				k.wants(pageWant(2))
			case a.Call == api.Delete:
				k.ends(api.Reply{})
			default:
				k.wants(spaceWant(11))
			}
			if t.Failed() {
				t.Fatalf("%+v of %+v", a, v)
			}
		}
	}
}

// What is in the slot is no version of that key: it is nothing, whatever the page is.
func TestNothingInTheSlot(t *testing.T) {
	x := bytesOf(api.Tuple{Xmin: 1, Key: "a", Value: "x"})
	bodies := append(oddPages(), leafOf(entry("a", 2, 1)), heapOf(), heapOf(api.Tuple{Xmin: 1, Key: "a"}),
		api.Page{Kind: api.HeapPage, Items: []string{x, "", x}}, api.Page{Kind: api.HeapPage, Items: []string{x, "\x04\x01a", x}},
		api.Page{Kind: api.HeapPage, Items: []string{x, "junk", x}}, api.Page{Kind: api.NodePage, Items: []string{x, x}},
		heapOf(api.Tuple{Xmin: 1, Key: "a"}, api.Tuple{Xmin: 6, Key: "b"}), heapOf(api.Tuple{Xmin: 1, Key: "a"}, api.Tuple{Xmin: 1, Key: "aa"}))
	for _, body := range bodies {
		for _, a := range lookers() {
			k := looking(t, a)
			k.shown(1, leafOf(entry("a", 2, 1), entry("a", 3, 0)))
			k.shown(2, body)
			k.shown(3, heapOf(api.Tuple{Xmin: 1, Key: "a", Value: "y"}))
			switch a.Call {
			case api.Get:
				k.ends(api.Reply{Found: true, Value: "y"})
			case api.Scan:
				k.ends(rows("a", "y"))
			default:
				k.wants(pageWant(3))
			}
		}
	}
}

// Each entry is looked at by itself, also where two have one page, with the view and the page of that time.
func TestEntriesOneByOne(t *testing.T) {
	k := looking(t, scan("", "", 9))
	k.shown(1, leafOf(entry("a", 2, 0), entry("b", 2, 1), entry("c", 1, 2), entry("d", 0, 0)))
	k.shown(2, heapOf(api.Tuple{Xmin: 1, Key: "a", Value: "x"}, api.Tuple{Xmin: 1, Key: "b", Value: "first"}))
	k.shown(2, heapOf(api.Tuple{Xmin: 6, Key: "a"}, api.Tuple{Xmin: 1, Key: "b", Value: "then"}))
	k.v.Own = 4
	k.shown(1, heapOf(api.Tuple{Xmin: 1, Key: "c"}, api.Tuple{Xmin: 1, Key: "c"}, api.Tuple{Xmin: 4, Key: "c", Value: "z"}))
	k.shown(0, heapOf(api.Tuple{Xmin: own, Key: "d"}))
	k.ends(rows("a", "x", "b", "then", "c", "z"))
}

func TestGetEndsAtOnce(t *testing.T) {
	k := looking(t, get("a"))
	k.shown(1, bounded(leafOf(entry("a", 2, 0), entry("a", 3, 0), entry("a", 4, 0)), 7, entry("a", 4, 0)))
	k.shown(2, heapOf(api.Tuple{Xmin: 6, Key: "a"}))
	k.shown(3, heapOf(api.Tuple{Xmin: 1, Key: "a"}))
	k.ends(found)
}

func TestScanEndsWithNRows(t *testing.T) {
	var list []api.Entry
	var versions []api.Tuple
	var all []string
	for i := range 17 {
		key, value := string(rune('a'+i)), fmt.Sprint(i)
		list = append(list, entry(key, 2, i))
		versions = append(versions, api.Tuple{Xmin: 1, Key: key, Value: value})
		all = append(all, key, value)
	}
	for n := 1; n <= 16; n++ {
		// The last row is the leaf's last entry, too: its neighbour is not looked at.
		for _, leaf := range []api.Page{leafOf(list...), bounded(leafOf(list[:n]...), 7, list[n-1])} {
			k := looking(t, scan("", "", n))
			k.shown(1, leaf)
			for range n {
				k.shown(2, heapOf(versions...))
			}
			k.ends(rows(all[:2*n]...))
		}
	}
	k := looking(t, scan("", "", 2))
	k.shown(1, leafOf(list[:4]...))
	for _, v := range []api.Tuple{{Xmin: 2, Key: "a"}, {Xmin: 1, Key: "b", Value: "x"}, {Xmin: 4, Key: "c"}, {Xmin: 1, Key: "d", Value: "y"}} {
		k.shown(2, heapOf(v, v, v, v))
	}
	k.ends(rows("b", "x", "d", "y"))
}

// Whether one conflicts is asked of each version, also behind the one to end.
func TestConflictsOfAnyVersion(t *testing.T) {
	leaf := leafOf(entry("a", 2, 0), entry("a", 2, 1), entry("a", 2, 2))
	news, good := api.Tuple{Xmin: 6, Key: "a"}, api.Tuple{Xmin: 1, Key: "a"}
	for _, a := range writers("a") {
		for n := range 3 {
			versions := []api.Tuple{good, good, good}
			versions[n] = news
			k := looking(t, a)
			k.shown(1, leaf)
			for range n + 1 {
				k.shown(2, heapOf(versions...))
			}
			k.ends(errReply(api.ErrConflict))
		}
		// Of several that are visible, the last one.
		k := looking(t, a)
		k.shown(1, leaf)
		for range 3 {
			k.shown(2, heapOf(good, good, api.Tuple{Xmin: 2, Key: "a"}))
		}
		k.logs(2, heapOf(good, good, good), api.Record{Kind: api.Mark, Xid: own, Page: 2, Slot: 1, New: own})
	}
	// Another key's news are no news.
	k := looking(t, remove("a"))
	k.shown(1, leafOf(entry("a", 2, 0), entry("a\x00", 2, 1)))
	k.shown(2, heapOf(good, api.Tuple{Xmin: 6, Key: "a\x00"}))
	k.wants(pageWant(2))
}

// The right neighbour is the one that the leaf had when it was shown; it is a leaf, whatever its keys are.
func TestRightNeighbours(t *testing.T) {
	x := func(key string) api.Page { return heapOf(api.Tuple{Xmin: 1, Key: key, Value: "x"}) }
	k := looking(t, scan("a", "d", 9))
	k.shown(1, bounded(leafOf(entry("a", 2, 0)), 7, entry("b", 2, 0)))
	k.shown(2, x("a"))
	k.shown(7, bounded(leafOf(), 8, entry("b", 3, 0))) // no hits
	k.shown(8, bounded(leafOf(entry("c", 3, 0), entry("d", 4, 0)), 9, entry("d", 4, 0)))
	k.shown(3, x("c"))
	k.ends(rows("a", "x", "c", "x"))
	for _, a := range append(lookers(), scan("", "", 9)) {
		for _, odd := range append(oddPages(), innerOf(1), innerOf(255)) {
			k := looking(t, a)
			k.shown(1, bounded(leafOf(entry("a", 2, 0)), 7, entry("a", 3, 0)))
			k.shown(2, heapOf())
			k.shown(7, odd)
			k.ends(errReply(api.ErrPage))
		}
		k := looking(t, a)
		k.shown(1, bounded(leafOf(entry("a", 2, 0)), 7, entry("a", 3, 0)))
		k.shown(2, heapOf())
		k.shown(7, leafOf())
		if a.Call == api.Put {
			k.wants(spaceWant(11))
		} else {
			k.ends(api.Reply{})
		}
	}
	// Whose High is not below the bound has all: the next one can't have more.
	for _, a := range []api.Ask{get("a"), remove("a"), scan("a", "b", 9), scan("", "a\x00", 9)} {
		k := looking(t, a)
		k.shown(1, bounded(leafOf(entry("a", 2, 0)), 7, entry("b", 0, 0)))
		k.shown(2, heapOf())
		k.ends(api.Reply{})
	}
	// The versions of one key may stand in several leaves.
	for _, a := range writers("a") {
		k := looking(t, a)
		k.shown(1, bounded(leafOf(entry("a", 2, 0)), 7, entry("a", 2, 0)))
		k.shown(2, x("a"))
		k.shown(7, bounded(leafOf(entry("a", 3, 0)), 8, entry("a", 3, 0)))
		k.shown(3, heapOf(api.Tuple{Xmin: 2, Key: "a"}))
		k.shown(8, leafOf(entry("a", 4, 0)))
		k.shown(4, heapOf(api.Tuple{Xmin: 4, Key: "a"}))
		k.logs(2, x("a"), api.Record{Kind: api.Mark, Xid: own, Page: 2, New: own})
	}
}

// P19.7: fresh pages are nothing where nothing is entered.
func TestFreshPagesWhereNothingIsEntered(t *testing.T) {
	k := locked(t, put("a", "y"))
	body := heapOf(api.Tuple{Xmin: 1, Key: "a"})
	k.shown(1, innerOf(1), 9)
	k.shown(30, leafOf(entry("a", 2, 0)), 9, 9)
	k.shown(2, body, -1)
	k.logs(2, body, api.Record{Kind: api.Mark, Xid: own, Page: 2, New: own}, 9, 9, 9)
	k.Space(2)
	k.logs(2, body, api.Record{Kind: api.Insert, Xid: own, Page: 2, Slot: 1, Data: bytesOf(api.Tuple{Xmin: own, Key: "a", Value: "y"})}, 7)
	k.shown(1, innerOf(1), 9)
	k.logs(30, leafOf(entry("a", 2, 0)), api.Record{Kind: api.EntryIn, Xid: own, Page: 30, Data: itemOf(entry("a", 2, 1))})
	k.ends(found)
}

// R2: what is shown is neither changed nor kept.
func TestWhatIsShownStaysTheCallers(t *testing.T) {
	spoil := func(p api.Page) {
		for i := range p.Items[:cap(p.Items)] {
			p.Items[:cap(p.Items)][i] = "spoilt"
		}
	}
	k := looking(t, scan("", "", 9))
	leaf := bounded(leafOf(entry("a", 2, 0), entry("b", 3, 0)), 7, entry("b", 3, 0))
	leaf.Items = append(make([]string, 0, 9), leaf.Items...)
	items := slices.Clone(leaf.Items[:9])
	k.shown(1, leaf)
	if !reflect.DeepEqual(leaf.Items[:9], items) {
		t.Errorf("the leaf is %q, was %q", leaf.Items[:9], items)
	}
	spoil(leaf)
	for i, key := range []string{"a", "b"} {
		body := heapOf(api.Tuple{Xmin: 1, Key: key, Value: strings.Repeat(key, 9)})
		k.shown(2+i, body)
		spoil(body)
	}
	k.shown(7, leafOf())
	k.ends(rows("a", strings.Repeat("a", 9), "b", strings.Repeat("b", 9)))
}
