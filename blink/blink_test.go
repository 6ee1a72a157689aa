package blink_test

import (
	"fmt"
	"math"
	"slices"
	"strings"
	"testing"

	"almonry/api"
	"almonry/blink"
	"almonry/node"
	"almonry/page"
	"almonry/rec"
)

var (
	least   = api.Entry{}
	longKey = strings.Repeat("k", 24)
)

// wrongNumbers are no pages and no slots.
var wrongNumbers = []int{math.MinInt, -65536, -1, 65536, 1 << 32, math.MaxInt}

// anyPages are numbers that a node may be said to stand on, but the root's.
var anyPages = []int{math.MinInt, -1, 0, 2, 3, 5, 255, 65535, 65536, math.MaxInt}

func entry(key string, page, slot int) api.Entry { return api.Entry{Key: key, Page: page, Slot: slot} }

// wrongEntries are no entries; the least is among them.
func wrongEntries() []api.Entry {
	list := []api.Entry{least, entry("", 0, 1), entry("", 1, 0), entry(strings.Repeat("k", 25), 1, 1), entry(strings.Repeat("\xFF", 1000), 1, 1)}
	for _, n := range wrongNumbers {
		list = append(list, entry("k", n, 0), entry("k", 0, n), entry("", n, n))
	}
	return list
}

// itemOf is an entry's bytes.
func itemOf(e api.Entry) string {
	item, err := node.Encode(e)
	if err != api.OK {
		panic(fmt.Sprint("no entry: ", e))
	}
	return item
}

func sepOf(e api.Entry, child int) string {
	item, err := node.Sep(e, child)
	if err != api.OK {
		panic(fmt.Sprint("no separator: ", e, child))
	}
	return item
}

func leafOf(list ...api.Entry) api.Page {
	p := api.Page{LSN: 9, Kind: api.NodePage}
	for _, e := range list {
		p.Items = append(p.Items, itemOf(e))
	}
	return p
}

// innerOf has the children 30, 31 and so on, the first one at the least.
func innerOf(list ...api.Entry) api.Page {
	p := api.Page{LSN: 9, Kind: api.NodePage, Level: 1, Items: []string{sepOf(least, 30)}}
	for i, e := range list {
		p.Items = append(p.Items, sepOf(e, 31+i))
	}
	return p
}

// bounded is a page of another Right and High.
func bounded(p api.Page, right int, high api.Entry) api.Page {
	p.Right, p.High = right, itemOf(high)
	return p
}

func at(p api.Page, level int) api.Page {
	p.Level = level
	return p
}

// numbered are entries that rise with their numbers; each one's bytes are seven, and its separator's eight.
func numbered(from, to int) []api.Entry {
	var list []api.Entry
	for n := from; n < to; n++ {
		list = append(list, nth(n))
	}
	return list
}

func nth(n int) api.Entry { return entry(fmt.Sprintf("k%03d", n), 1, 1) }

// fullLeaf has the even numbered entries from 0 to 106, and no room for another one of them.
func fullLeaf() api.Page {
	var list []api.Entry
	for n := 0; n <= 106; n += 2 {
		list = append(list, nth(n))
	}
	return leafOf(list...)
}

// fullInner has the least and the even numbered separators from 2 to 96, and no room for another one of them.
func fullInner() api.Page {
	var list []api.Entry
	for n := 2; n <= 96; n += 2 {
		list = append(list, nth(n))
	}
	return innerOf(list...)
}

// noNodes are pages that node.Check refuses, one for each of its reasons.
func noNodes() []api.Page {
	a, b := entry("a", 1, 0), entry("b", 1, 0)
	good, inner := leafOf(a, b), innerOf(a, b)
	change := func(p api.Page, f func(p *api.Page)) api.Page {
		p.Items = slices.Clone(p.Items)
		f(&p)
		return p
	}
	list := []api.Page{
		{},
		{Kind: api.NodePage, Level: 1},
		leafOf(b, a),
		leafOf(a, a),
		bounded(leafOf(a, b), 7, a),
		bounded(innerOf(a, b), 7, b),
		at(good, 1),
		at(inner, 0),
		change(good, func(p *api.Page) { p.Kind = api.HeapPage }),
		change(inner, func(p *api.Page) { p.Kind = api.ClogPage }),
		change(good, func(p *api.Page) { p.Kind = 4 }),
		change(good, func(p *api.Page) { p.LSN = -1 }),
		change(inner, func(p *api.Page) { p.LSN = math.MinInt }),
		change(good, func(p *api.Page) { p.Level = -1 }),
		change(inner, func(p *api.Page) { p.Level = 256 }),
		change(good, func(p *api.Page) { p.Right = -1 }),
		change(good, func(p *api.Page) { p.Right = 65536 }),
		change(inner, func(p *api.Page) { p.Right = math.MaxInt }),
		change(good, func(p *api.Page) { p.High = "x" }),
		change(inner, func(p *api.Page) { p.High = "\x00\x00\x00" }),
		change(good, func(p *api.Page) { p.Items[1] = "" }),
		change(inner, func(p *api.Page) { p.Items[1] = "x" }),
		change(inner, func(p *api.Page) { p.Items = p.Items[1:] }),
	}
	// These are too long for a page.
	return append(list, leafOf(numbered(0, 55)...), innerOf(numbered(0, 50)...))
}

func wayIs(t *testing.T, p api.Page, level int, e api.Entry, want int, wantThere bool) {
	t.Helper()
	if got, there, err := blink.Way(p, level, e); got != want || there != wantThere || err != api.OK {
		t.Errorf("Way(%+v, %d, %v): %d %v %v, want %d %v", p, level, e, got, there, err, want, wantThere)
	}
}

func wayFails(t *testing.T, p api.Page, level int, e api.Entry) {
	t.Helper()
	if got, there, err := blink.Way(p, level, e); got != 0 || there || err != api.ErrNode {
		t.Errorf("Way(%+v, %d, %v): %d %v %v", p, level, e, got, there, err)
	}
}

func needIs(t *testing.T, p api.Page, page int, item string, want int) {
	t.Helper()
	if got, err := blink.Need(p, page, item); got != want || err != api.OK {
		t.Errorf("Need(%+v, %d, %q): %d %v, want %d", p, page, item, got, err, want)
	}
}

// needFails asks Enter, too, with any number of pages: its errors are Need's first.
func needFails(t *testing.T, p api.Page, page int, item string, want api.Errno) {
	t.Helper()
	if got, err := blink.Need(p, page, item); got != 0 || err != want {
		t.Errorf("Need(%+v, %d, %q): %d %v, want %v", p, page, item, got, err, want)
	}
	for _, fresh := range [][]int{nil, {7}, {7, 8}, {7, 7}, {0}, {7, 8, 9}} {
		enterFails(t, p, page, item, want, fresh...)
	}
}

func enterIs(t *testing.T, p api.Page, page int, item string, want api.Record, fresh ...int) {
	t.Helper()
	r, err := blink.Enter(p, page, item, fresh...)
	isRecord(t, fmt.Sprintf("Enter(%+v, %d, %q, %v)", p, page, item, fresh), r, err, want)
}

func enterFails(t *testing.T, p api.Page, page int, item string, want api.Errno, fresh ...int) {
	t.Helper()
	r, err := blink.Enter(p, page, item, fresh...)
	isNoRecord(t, fmt.Sprintf("Enter(%+v, %d, %q, %v)", p, page, item, fresh), r, err, want)
}

func isRecord(t *testing.T, what string, got api.Record, err api.Errno, want api.Record) {
	t.Helper()
	if err != api.OK || !rec.Same(got, want) {
		t.Errorf("%s: %+v %v, want %+v", what, got, err, want)
	}
}

func isNoRecord(t *testing.T, what string, got api.Record, err, want api.Errno) {
	t.Helper()
	if err != want || !rec.Same(got, api.Record{}) {
		t.Errorf("%s: %+v %v, want %v", what, got, err, want)
	}
}

func aboveIs(t *testing.T, r api.Record, want api.Entry, wantPage int) {
	t.Helper()
	if e, page, ok := blink.Above(r); e != want || page != wantPage || !ok {
		t.Errorf("Above(%+v): %v %d %v, want %v %d", r, e, page, ok, want, wantPage)
	}
}

func nothingAbove(t *testing.T, r api.Record) {
	t.Helper()
	if e, page, ok := blink.Above(r); e != least || page != 0 || ok {
		t.Errorf("Above(%+v): %v %d %v", r, e, page, ok)
	}
}

func leaveFails(t *testing.T, p api.Page, e api.Entry, want api.Errno) {
	t.Helper()
	r, err := blink.Leave(p, 5, e)
	isNoRecord(t, fmt.Sprintf("Leave(%+v, 5, %v)", p, e), r, err, want)
}

func hitsAre(t *testing.T, p api.Page, from, to string, wantMore bool, want ...api.Entry) {
	t.Helper()
	if got, more, err := blink.Hits(p, from, to); !slices.Equal(got, want) || more != wantMore || err != api.OK {
		t.Errorf("Hits(%+v, %q, %q): %v %v %v, want %v %v", p, from, to, got, more, err, want, wantMore)
	}
}

func hitsFail(t *testing.T, p api.Page, from, to string) {
	t.Helper()
	if got, more, err := blink.Hits(p, from, to); len(got) != 0 || more || err != api.ErrNode {
		t.Errorf("Hits(%+v, %q, %q): %v %v %v", p, from, to, got, more, err)
	}
}

func TestTheTestsPages(t *testing.T) {
	for i, p := range noNodes() {
		if node.Check(p) != api.ErrNode {
			t.Errorf("page %d is a node: %+v", i, p)
		}
	}
	for _, p := range []api.Page{fullLeaf(), fullInner()} {
		if err := node.Check(p); err != api.OK || page.Room(p) < 0 || page.Room(p) >= 7 {
			t.Errorf("%v, room for %d: %+v", err, page.Room(p), p)
		}
	}
}

func TestExamples(t *testing.T) {
	e := entry("k", 300, 2)
	for _, x := range []api.Entry{e, entry("\x00", 0, 0), entry(longKey, 65535, 65535)} {
		wayIs(t, node.Leaf(), 0, x, 0, true)
	}
	needIs(t, node.Leaf(), 1, itemOf(e), 0)
	enterIs(t, node.Leaf(), 1, itemOf(e), api.Record{Kind: api.EntryIn, Page: 1, Data: "\x01k\xAC\x02\x02"})
	a, b, b2, c := entry("a", 2, 0), entry("b", 2, 1), entry("b", 3, 0), entry("c", 2, 2)
	hitsAre(t, leafOf(a, b, b2, c), "b", "c", false, b, b2)
	hitsAre(t, bounded(leafOf(a, b, b2, c), 7, c), "b", "c", false, b, b2)
	hitsAre(t, bounded(leafOf(a, b, b2), 7, b2), "b", "c", true, b, b2)
	needIs(t, fullLeaf(), 1, itemOf(nth(1)), 2)
	needIs(t, fullLeaf(), 5, itemOf(nth(1)), 1)
}

// P15.1

func TestWayAtTheLevel(t *testing.T) {
	for _, p := range []api.Page{node.Leaf(), leafOf(entry("b", 1, 0), entry("d", 1, 0)), innerOf(), innerOf(entry("b", 1, 0)), at(innerOf(), 255)} {
		for _, e := range []api.Entry{entry("\x00", 0, 0), entry("a", 1, 0), entry("b", 1, 0), entry("c", 9, 9), entry(longKey, 65535, 65535)} {
			wayIs(t, p, p.Level, e, 0, true)
		}
		// A right neighbour alone bounds nothing.
		p.Right = 7
		wayIs(t, p, p.Level, entry("zz", 1, 0), 0, true)
	}
}

func TestWayToTheRight(t *testing.T) {
	high := entry("m", 300, 7)
	in := []api.Entry{entry("\x00", 0, 0), entry("a", 65535, 65535), entry("m", 0, 65535), entry("m", 299, 8), entry("m", 300, 6), high}
	out := []api.Entry{entry("m", 300, 8), entry("m", 301, 0), entry("m\x00", 0, 0), entry("n", 0, 0), entry("\xFF", 1, 1)}
	for _, p := range []api.Page{node.Leaf(), leafOf(entry("b", 1, 0)), leafOf(high), innerOf(entry("b", 1, 0))} {
		p = bounded(p, 65535, high)
		for level := 0; level <= p.Level; level++ {
			for _, e := range out {
				wayIs(t, p, level, e, 65535, false)
			}
		}
		for _, e := range in {
			wayIs(t, p, p.Level, e, 0, true)
		}
	}
	// The neighbour is answered as it stands, also if there is none.
	wayIs(t, bounded(node.Leaf(), 0, high), 0, out[0], 0, false)
}

func TestWayDown(t *testing.T) {
	p := innerOf(entry("b", 1, 0), entry("d", 1, 1))
	for _, top := range []int{1, 2, 3, 254, 255} {
		p := at(p, top)
		for _, level := range []int{0, 1, top / 2, top - 1} {
			if level == top {
				continue
			}
			wayIs(t, p, level, entry("\x00", 0, 0), 30, false)
			wayIs(t, p, level, entry("b", 1, 0), 30, false)
			wayIs(t, p, level, entry("b", 1, 1), 31, false)
			wayIs(t, p, level, entry("d", 1, 1), 31, false)
			wayIs(t, p, level, entry("d", 2, 0), 32, false)
			wayIs(t, p, level, entry("zz", 0, 0), 32, false)
			wayIs(t, bounded(p, 7, entry("f", 1, 0)), level, entry("f", 1, 0), 32, false)
			wayIs(t, bounded(p, 7, entry("f", 1, 0)), level, entry("f", 1, 1), 7, false)
		}
	}
}

func TestNoWay(t *testing.T) {
	e := entry("b", 1, 0)
	for _, p := range noNodes() {
		for _, level := range []int{-1, 0, 1, 2, 256} {
			wayFails(t, p, level, e)
			wayFails(t, p, level, least)
		}
	}
	for _, p := range []api.Page{node.Leaf(), leafOf(e), bounded(leafOf(e), 7, e), innerOf(e), at(innerOf(e), 255), bounded(innerOf(), 7, e)} {
		for _, level := range []int{math.MinInt, -256, -1, p.Level + 1, p.Level + 2, 256, math.MaxInt} {
			wayFails(t, p, level, e)
			wayFails(t, p, level, entry("z", 1, 0))
		}
	}
}

// What is no entry is beyond no node, also where its key is behind the High: at its level the node is the one, above it
// node.Child refuses it.
func TestWayOfNoEntry(t *testing.T) {
	e := entry("b", 1, 0)
	for _, p := range []api.Page{
		node.Leaf(), leafOf(e), bounded(leafOf(e), 7, e), bounded(node.Leaf(), 0, e),
		innerOf(e), bounded(innerOf(), 7, e), at(bounded(innerOf(), 7, e), 3), at(innerOf(e), 255),
	} {
		for _, wrong := range append(wrongEntries(), entry("z", -1, 0), entry("z", 0, 65536), entry("zzzzzzzzzzzzzzzzzzzzzzzzz", 1, 0)) {
			wayIs(t, p, p.Level, wrong, 0, true)
			for level := range p.Level {
				wayFails(t, p, level, wrong)
			}
			wayFails(t, p, p.Level+1, wrong)
			wayFails(t, p, -1, wrong)
		}
	}
}

// P15.2

func TestNeedOfNone(t *testing.T) {
	a, b, c := entry("a", 1, 0), entry("b", 1, 0), entry("c", 1, 0)
	for _, page := range append(anyPages, 1) {
		needIs(t, node.Leaf(), page, itemOf(b), 0)
		needIs(t, leafOf(a, c), page, itemOf(b), 0)
		needIs(t, leafOf(a, c), page, itemOf(entry("a", 1, 1)), 0)
		needIs(t, innerOf(), page, sepOf(b, 5), 0)
		needIs(t, at(innerOf(a, c), 255), page, sepOf(b, 65535), 0)
		// The same child may stand there twice.
		needIs(t, innerOf(a, c), page, sepOf(b, 31), 0)
		// What is not beyond a leaf's High may be the High itself.
		needIs(t, bounded(leafOf(a), 7, b), page, itemOf(b), 0)
		needIs(t, bounded(innerOf(a), 7, c), page, sepOf(b, 5), 0)
	}
}

func TestNeedOfNoItem(t *testing.T) {
	a, b := entry("a", 1, 0), entry("b", 1, 0)
	leaves := []api.Page{node.Leaf(), leafOf(a), fullLeaf()}
	inners := []api.Page{innerOf(), innerOf(a), at(innerOf(a), 255), fullInner()}
	odd := []string{"", "x", "\x00", "\x01", "\x01b", "\x01b\x01", "\x81\x00b\x01\x01", "\x01b\x01\x01\x05\x05", strings.Repeat("\xFF", 1000)}
	for _, page := range []int{1, 5} {
		for _, p := range leaves {
			for _, item := range append(odd, sepOf(b, 5), sepOf(least, 5), "\x00\x00\x00", itemOf(b)+"\x00", itemOf(b)[:4-1]) {
				needFails(t, p, page, item, api.ErrNode)
			}
		}
		for _, p := range inners {
			for _, item := range append(odd, itemOf(b), "\x00\x00\x00", itemOf(b)+"\x00", itemOf(b)+"\x80\x80\x04", sepOf(b, 5)+"\x00") {
				needFails(t, p, page, item, api.ErrNode)
			}
		}
		for _, p := range noNodes() {
			for _, item := range []string{itemOf(a), itemOf(entry("x", 1, 0)), sepOf(a, 5), sepOf(entry("x", 1, 0), 5), ""} {
				needFails(t, p, page, item, api.ErrNode)
			}
		}
	}
}

func TestNeedOfWhatStandsThere(t *testing.T) {
	for _, page := range []int{1, 5} {
		for _, p := range []api.Page{leafOf(nth(0), nth(2), nth(106)), fullLeaf(), bounded(leafOf(nth(0), nth(2), nth(106)), 7, nth(106))} {
			for _, n := range []int{0, 2, 106} {
				needFails(t, p, page, itemOf(nth(n)), api.ErrEntry)
			}
		}
		for _, p := range []api.Page{innerOf(nth(2), nth(4), nth(96)), fullInner(), at(fullInner(), 255)} {
			for i, n := range []int{2, 4, 96} {
				needFails(t, p, page, sepOf(nth(n), 31+i), api.ErrEntry)
				needFails(t, p, page, sepOf(nth(n), 5), api.ErrEntry)
			}
			// The least stands in each one, but it is no entry that could come in.
			needFails(t, p, page, sepOf(least, 30), api.ErrNode)
			needFails(t, p, page, sepOf(least, 5), api.ErrNode)
		}
	}
}

func TestNeedOfWhatLiesBeyond(t *testing.T) {
	full := fullLeaf()
	full.Items = full.Items[:len(full.Items)-1]
	inner := fullInner()
	inner.Items = inner.Items[:len(inner.Items)-1]
	for _, page := range []int{1, 5} {
		for _, p := range []api.Page{node.Leaf(), leafOf(nth(0)), full} {
			p = bounded(p, 7, nth(104))
			needFails(t, p, page, itemOf(entry(nth(104).Key, 1, 2)), api.ErrNode)
			needFails(t, p, page, itemOf(nth(105)), api.ErrNode)
			needFails(t, p, page, itemOf(nth(106)), api.ErrNode)
		}
		for _, p := range []api.Page{innerOf(), innerOf(nth(2)), inner} {
			p = bounded(p, 7, nth(96))
			needFails(t, p, page, sepOf(nth(96), 5), api.ErrNode)
			needFails(t, p, page, sepOf(nth(97), 5), api.ErrNode)
		}
	}
}

// An item that fills the last byte is taken; one byte more is too long.
func TestNeedOfFullNodes(t *testing.T) {
	for _, p := range []api.Page{leafOf(numbered(100, 152)...), innerOf(numbered(100, 147)...)} {
		room := page.Room(p)
		head := 3
		lay := func(key string) string { return itemOf(entry(key, 1, 1)) }
		if p.Level > 0 {
			head = 4
			lay = func(key string) string { return sepOf(entry(key, 1, 1), 5) }
		}
		if room-head < 2 || room-head > 23 {
			t.Fatalf("room for %d", room)
		}
		for _, fill := range []string{"a", "z"} {
			fits, long := lay(strings.Repeat(fill, room-head)), lay(strings.Repeat(fill, room-head+1))
			for _, page := range anyPages {
				needIs(t, p, page, fits, 0)
				needIs(t, p, page, long, 1)
			}
			needIs(t, p, 1, fits, 0)
			needIs(t, p, 1, long, 2)
		}
	}
}

// P15.3

func TestEnterWithoutNewPages(t *testing.T) {
	a, b, c := entry("a", 1, 0), entry("b", 1, 0), entry("c", 1, 0)
	for _, page := range append(anyPages, 1) {
		enterIs(t, leafOf(a, c), page, itemOf(b), api.Record{Kind: api.EntryIn, Page: page, Data: itemOf(b)})
		enterIs(t, at(innerOf(a, c), 255), page, sepOf(b, 9), api.Record{Kind: api.EntryIn, Page: page, Data: sepOf(b, 9)})
		for _, fresh := range [][]int{{7}, {7, 8}, {1}, {-1}, {7, 7}, make([]int, 100)} {
			enterFails(t, leafOf(a, c), page, itemOf(b), api.ErrArg, fresh...)
			enterFails(t, innerOf(a, c), page, sepOf(b, 9), api.ErrArg, fresh...)
		}
	}
}

func TestEnterWithWrongNewPages(t *testing.T) {
	one := [][]int{nil, {}, {1}, {0}, {-1}, {math.MinInt}, {7, 8}, {7, 7}, {7, 8, 9}, make([]int, 100)}
	two := [][]int{nil, {}, {7}, {1}, {7, 7}, {65536, 65536}, {1, 7}, {7, 1}, {0, 7}, {7, 0}, {-1, 7}, {7, math.MinInt}, {7, 8, 9}, {65536, 1}}
	for _, c := range []struct {
		p    api.Page
		item string
	}{{fullLeaf(), itemOf(nth(1))}, {fullLeaf(), itemOf(nth(107))}, {fullInner(), sepOf(nth(1), 5)}, {at(fullInner(), 255), sepOf(nth(97), 5)}} {
		for _, fresh := range one {
			enterFails(t, c.p, 5, c.item, api.ErrArg, fresh...)
		}
		for _, fresh := range two {
			enterFails(t, c.p, 1, c.item, api.ErrArg, fresh...)
		}
	}
}

// splitOf is the record that the chapter asks for: right tells whether the item comes into the right half.
func splitOf(t *testing.T, p api.Page, page int, item string, right bool, fresh ...int) api.Record {
	t.Helper()
	p.LSN = 0
	last := fresh[len(fresh)-1]
	halves := make([]api.Page, 2)
	var border api.Entry
	var err api.Errno
	if halves[0], halves[1], border, err = node.Split(p, last); err != api.OK {
		t.Fatal(err)
	}
	half := &halves[0]
	if right {
		half = &halves[1]
	}
	if p.Level == 0 {
		e, _ := node.Decode(item)
		*half, err = node.Insert(*half, e)
	} else {
		e, child, _ := node.Unsep(item)
		*half, err = node.Post(*half, e, child)
	}
	if err != api.OK {
		t.Fatal(err)
	}
	r := api.Record{Kind: api.Split, Images: []api.Image{{Page: page, Body: halves[0]}, {Page: last, Body: halves[1]}}}
	if len(fresh) == 2 {
		root := api.Page{Kind: api.NodePage, Level: p.Level + 1, Items: []string{sepOf(least, fresh[0]), sepOf(border, last)}}
		r.Images[0].Page = fresh[0]
		r.Images = append(r.Images, api.Image{Page: 1, Body: root})
	}
	return r
}

// The leaf's left half ends with the entry 52 of 0 to 106; what separates an inner node's halves is 50.
func TestEnterWithASplit(t *testing.T) {
	for _, c := range []struct {
		e     api.Entry
		right bool
	}{{nth(1), false}, {nth(51), false}, {entry(nth(52).Key, 1, 0), false}, {entry(nth(52).Key, 1, 2), true}, {nth(53), true}, {nth(105), true}, {nth(107), true}} {
		for _, p := range []api.Page{fullLeaf(), bounded(fullLeaf(), 9, entry(nth(107).Key, 2, 0))} {
			if p.High != "" {
				p.Items = p.Items[:len(p.Items)-1]
			}
			for _, page := range anyPages {
				enterIs(t, p, page, itemOf(c.e), splitOf(t, p, page, itemOf(c.e), c.right, 7), 7)
				enterIs(t, p, page, itemOf(c.e), splitOf(t, p, page, itemOf(c.e), c.right, 65535), 65535)
				enterIs(t, p, page, itemOf(c.e), splitOf(t, p, page, itemOf(c.e), c.right, 2), 2)
			}
			enterIs(t, p, 1, itemOf(c.e), splitOf(t, p, 1, itemOf(c.e), c.right, 7, 8), 7, 8)
			enterIs(t, p, 1, itemOf(c.e), splitOf(t, p, 1, itemOf(c.e), c.right, 65535, 2), 65535, 2)
		}
	}
}

func TestEnterWithASplitOfInnerNodes(t *testing.T) {
	for _, c := range []struct {
		e     api.Entry
		right bool
	}{{nth(1), false}, {nth(49), false}, {entry(nth(50).Key, 1, 0), false}, {entry(nth(50).Key, 1, 2), true}, {nth(51), true}, {nth(95), true}, {nth(97), true}} {
		for _, level := range []int{1, 2, 254, 255} {
			p := at(fullInner(), level)
			item := sepOf(c.e, 5)
			enterIs(t, p, 5, item, splitOf(t, p, 5, item, c.right, 7), 7)
			if level < 255 {
				enterIs(t, p, 1, item, splitOf(t, p, 1, item, c.right, 7, 8), 7, 8)
			}
		}
	}
}

// All that is said of a split, of one that is written out.
func TestASplitWrittenOut(t *testing.T) {
	p := fullLeaf()
	p.Right = 9
	r, err := blink.Enter(p, 5, itemOf(nth(1)), 7)
	left := api.Page{Kind: api.NodePage, Right: 7, High: itemOf(nth(52)), Items: slices.Insert(slices.Clone(p.Items[:27]), 1, itemOf(nth(1)))}
	rest := api.Page{Kind: api.NodePage, Right: 9, Items: p.Items[27:]}
	isRecord(t, "a leaf", r, err, api.Record{Kind: api.Split, Images: []api.Image{{Page: 5, Body: left}, {Page: 7, Body: rest}}})

	p = fullInner()
	p.Right = 9
	r, err = blink.Enter(p, 1, sepOf(nth(51), 5), 8, 7)
	left = api.Page{Kind: api.NodePage, Level: 1, Right: 7, High: itemOf(nth(50)), Items: p.Items[:25]}
	rest = api.Page{Kind: api.NodePage, Level: 1, Right: 9, Items: append([]string{sepOf(least, 55), sepOf(nth(51), 5)}, p.Items[26:]...)}
	root := api.Page{Kind: api.NodePage, Level: 2, Items: []string{sepOf(least, 8), sepOf(nth(50), 7)}}
	isRecord(t, "the root", r, err, api.Record{Kind: api.Split, Images: []api.Image{{Page: 8, Body: left}, {Page: 7, Body: rest}, {Page: 1, Body: root}}})
}

// A record that is answered can be logged, as soon as it has a place.
func TestEnterCanBeLogged(t *testing.T) {
	for _, page := range []int{1, 5} {
		for _, p := range []api.Page{fullLeaf(), fullInner()} {
			item, fresh := itemOf(nth(1)), []int{7}
			if p.Level > 0 {
				item = sepOf(nth(1), 5)
			}
			if page == 1 {
				fresh = append(fresh, 8)
			}
			r, err := blink.Enter(p, page, item, fresh...)
			r.LSN = 1
			if err != api.OK || rec.Check(r) != api.OK {
				t.Errorf("%v, %v: %+v", err, rec.Check(r), r)
			}
		}
	}
}

// What node.Split or node.Root refuses: pages that no node can name, and a root above the highest level.
func TestEnterRefused(t *testing.T) {
	leaf, inner := itemOf(nth(1)), sepOf(nth(1), 5)
	for _, high := range []int{65536, 1 << 32, math.MaxInt} {
		enterFails(t, fullLeaf(), 5, leaf, api.ErrNode, high)
		enterFails(t, fullInner(), 5, inner, api.ErrNode, high)
		for _, fresh := range [][]int{{high, 7}, {7, high}, {high, high - 1}} {
			enterFails(t, fullLeaf(), 1, leaf, api.ErrNode, fresh...)
			enterFails(t, fullInner(), 1, inner, api.ErrNode, fresh...)
		}
	}
	enterFails(t, at(fullInner(), 255), 1, inner, api.ErrNode, 7, 8)
}

// Halves have room for any item, so that no Enter has to say ErrRoom: as many long items as can be stand in one half,
// short ones in the other, and the longest one comes in.
func TestHalvesHaveRoom(t *testing.T) {
	for _, level := range []int{0, 1} {
		for long := range 33 {
			for _, leftLong := range []bool{true, false} {
				for _, high := range []bool{true, false} {
					p := uneven(level, long, leftLong, high)
					entersLongest(t, p, "A\x00")
					entersLongest(t, p, "z\xFF")
				}
			}
		}
	}
}

// uneven is a node of so many items with keys of 24 bytes, and of as many of the shortest ones as there is room for,
// behind them or ahead of them.
func uneven(level, long int, leftLong, high bool) api.Page {
	p := at(node.Leaf(), level)
	if level > 0 {
		p.Items = []string{sepOf(least, 5)}
	}
	if high {
		p = bounded(p, 9, entry(strings.Repeat("\xFF", 24), 65535, 65535))
	}
	start := "Z"
	if leftLong {
		start = "A"
	}
	for i := 0; ; i++ {
		e, child := entry("B", i, 1), 5
		if i < long {
			e, child = entry(fmt.Sprintf("%s%02d%s", start, i, strings.Repeat("x", 21)), 65535, 65535), 65535
		}
		q, err := node.Insert(p, e)
		if level > 0 {
			q, err = node.Post(p, e, child)
		}
		if err != api.OK {
			return p
		}
		p = q
	}
}

func entersLongest(t *testing.T, p api.Page, start string) {
	t.Helper()
	e := entry(start+strings.Repeat("x", 22), 65535, 65535)
	item := itemOf(e)
	if p.Level > 0 {
		item = sepOf(e, 65535)
	}
	needIs(t, p, 5, item, 1)
	r, err := blink.Enter(p, 5, item, 7)
	if err != api.OK {
		t.Errorf("Enter(%+v, 5, %q, 7): %v", p, item, err)
	}
	for _, image := range r.Images {
		if node.Check(image.Body) != api.OK {
			t.Errorf("no node: %+v", image)
		}
	}
}

// P15.4

func TestAbove(t *testing.T) {
	b := entry("b", 300, 7)
	left, rest := bounded(leafOf(entry("a", 1, 0), b), 7, b), leafOf(entry("c", 1, 0))
	for _, page := range append(anyPages, 1) {
		aboveIs(t, api.Record{Kind: api.Split, Images: []api.Image{{Page: 5, Body: left}, {Page: page, Body: rest}}}, b, page)
	}
	inner := bounded(innerOf(entry("a", 1, 0)), 7, b)
	aboveIs(t, api.Record{LSN: 9, Kind: api.Split, Xid: 3, Page: 4, Images: []api.Image{{Page: 1, Body: inner}, {Page: 7, Body: innerOf()}}}, b, 7)

	r, _ := blink.Enter(fullLeaf(), 5, itemOf(nth(1)), 7)
	aboveIs(t, r, nth(52), 7)
	r, _ = blink.Enter(fullInner(), 5, sepOf(nth(97), 5), 7)
	aboveIs(t, r, nth(50), 7)
}

func TestNothingAbove(t *testing.T) {
	b := entry("b", 300, 7)
	left := api.Image{Page: 5, Body: bounded(leafOf(b), 7, b)}
	right := api.Image{Page: 7, Body: leafOf(entry("c", 1, 0))}
	all := []api.Image{left, right, left, right}
	for n := range len(all) + 1 {
		if n != 2 {
			nothingAbove(t, api.Record{Kind: api.Split, Images: all[:n]})
		}
	}
	for kind := range 256 {
		if api.Kind(kind) != api.Split {
			nothingAbove(t, api.Record{LSN: 9, Kind: api.Kind(kind), Page: 5, Data: itemOf(b), Images: all[:2]})
		}
	}
	for _, high := range []string{"", "x", "\x00\x00\x00", sepOf(b, 5), strings.Repeat("\xFF", 300)} {
		odd := left
		odd.Body.High = high
		nothingAbove(t, api.Record{Kind: api.Split, Images: []api.Image{odd, right}})
	}
	nothingAbove(t, api.Record{})
	r, _ := blink.Enter(fullLeaf(), 1, itemOf(nth(1)), 7, 8)
	nothingAbove(t, r)
	r, _ = blink.Enter(node.Leaf(), 5, itemOf(nth(1)))
	nothingAbove(t, r)
	r, _ = blink.Leave(fullLeaf(), 5, nth(0))
	nothingAbove(t, r)
}

// P15.5

func TestLeave(t *testing.T) {
	a, b, b2 := entry("a", 1, 0), entry("b", 300, 7), entry("b", 300, 8)
	for _, p := range []api.Page{leafOf(a, b, b2), bounded(leafOf(a, b, b2), 7, b2), bounded(leafOf(a, b, b2), 0, entry("c", 1, 0))} {
		for _, e := range []api.Entry{a, b, b2} {
			for _, page := range append(anyPages, 1) {
				r, err := blink.Leave(p, page, e)
				isRecord(t, "Leave", r, err, api.Record{Kind: api.EntryOut, Page: page, Data: itemOf(e)})
			}
		}
		for _, e := range append(wrongEntries(), entry("a", 1, 1), entry("a", 0, 0), entry("b", 301, 7), entry("b\x00", 300, 7), entry("c", 1, 0), entry("z", 9, 9)) {
			leaveFails(t, p, e, api.ErrEntry)
		}
	}
	leaveFails(t, node.Leaf(), a, api.ErrEntry)
	leaveFails(t, node.Leaf(), least, api.ErrEntry)
}

func TestLeaveOfNoLeaf(t *testing.T) {
	a := entry("a", 1, 0)
	for _, p := range append(noNodes(), innerOf(), innerOf(a), at(innerOf(a), 255)) {
		for _, e := range []api.Entry{a, entry("b", 1, 0), nth(0), least} {
			leaveFails(t, p, e, api.ErrNode)
		}
	}
}

// P15.6

func TestHits(t *testing.T) {
	a, ab, b, b2, b0, c := entry("a", 1, 0), entry("ab", 1, 0), entry("b", 1, 0), entry("b", 2, 0), entry("b\x00", 0, 0), entry("c", 1, 0)
	p := leafOf(a, ab, b, b2, b0, c)
	hitsAre(t, p, "", "", false, a, ab, b, b2, b0, c)
	hitsAre(t, p, "a", "", false, a, ab, b, b2, b0, c)
	hitsAre(t, p, "a\x00", "", false, ab, b, b2, b0, c)
	hitsAre(t, p, "b", "", false, b, b2, b0, c)
	hitsAre(t, p, "b", "b\x00", false, b, b2)
	hitsAre(t, p, "b", "b\x00\x00", false, b, b2, b0)
	hitsAre(t, p, "b\x00", "c", false, b0)
	hitsAre(t, p, "b\x00", "c\x00", false, b0, c)
	hitsAre(t, p, "", "a", false)
	hitsAre(t, p, "", "a\x00", false, a)
	hitsAre(t, p, "", "\xFF", false, a, ab, b, b2, b0, c)
	hitsAre(t, p, "c", "", false, c)
	hitsAre(t, p, "c\x00", "", false)
	hitsAre(t, p, "\xFF", "", false)
	hitsAre(t, p, "b", "b", false)
	hitsAre(t, p, "c", "a", false)
	hitsAre(t, p, strings.Repeat("a", 1000), strings.Repeat("b", 1000), false, ab, b, b2, b0)
	hitsAre(t, node.Leaf(), "", "", false)
	hitsAre(t, node.Leaf(), "a", "b", false)
}

func TestHitsOfTheNeighbour(t *testing.T) {
	a, b := entry("a", 1, 0), entry("b", 65535, 65535)
	p := bounded(leafOf(a), 7, b)
	hitsAre(t, p, "", "", true, a)
	hitsAre(t, p, "a", "", true, a)
	hitsAre(t, p, "z", "", true)
	hitsAre(t, p, "", "a", false)
	hitsAre(t, p, "a", "b", false, a)
	hitsAre(t, p, "a", "a\xFF", false, a)
	// Other entries of the High's key may lie behind it.
	hitsAre(t, p, "a", "b\x00", true, a)
	hitsAre(t, p, "b", "b\x00", true)
	hitsAre(t, p, "a", "c", true, a)
	hitsAre(t, p, "z", "c", true)
	hitsAre(t, p, "a", strings.Repeat("b", 1000), true, a)
	for _, right := range []int{1, 2, 65535} {
		hitsAre(t, bounded(node.Leaf(), right, b), "", "", true)
		hitsAre(t, bounded(node.Leaf(), right, b), "", "b", false)
		hitsAre(t, bounded(node.Leaf(), right, b), "", "b\x00", true)
	}
	// Without a neighbour there is nothing more, whatever the High is.
	for _, to := range []string{"", "a", "b", "b\x00", "c"} {
		hitsAre(t, bounded(node.Leaf(), 0, b), "", to, false)
	}
	// A neighbour behind a leaf without a High: nothing that is bounded goes on there.
	p = leafOf(a)
	p.Right = 7
	hitsAre(t, p, "", "", true, a)
	hitsAre(t, p, "", "a", false)
	hitsAre(t, p, "", "\xFF", false, a)
}

func TestHitsOfNoLeaf(t *testing.T) {
	for _, p := range append(noNodes(), innerOf(), innerOf(entry("a", 1, 0)), at(innerOf(), 255), bounded(innerOf(), 7, entry("b", 1, 0))) {
		for _, to := range []string{"", "b", "c"} {
			hitsFail(t, p, "", to)
			hitsFail(t, p, "b", to)
		}
	}
}

// R2

func TestNothingIsWrittenInto(t *testing.T) {
	for _, p := range []api.Page{leafOf(numbered(0, 54)...), innerOf(numbered(0, 48)...)} {
		before := slices.Clone(p.Items)
		for n := range p.Items {
			q := p
			q.Items = p.Items[:n]
			spoil(q)
			if !slices.Equal(p.Items, before) {
				t.Fatalf("items are %q, were %q", p.Items, before)
			}
		}
		spoil(p)
		if !slices.Equal(p.Items, before) {
			t.Fatalf("items are %q, were %q", p.Items, before)
		}
	}
}

// spoil writes into all that is answered of a page, and behind it.
func spoil(p api.Page) {
	entries, _, _ := blink.Hits(p, "", "")
	for i := range entries {
		entries[i] = nth(999)
	}
	fresh := []int{7, 8, 9}
	var records []api.Record
	for _, e := range []api.Entry{nth(3), entry("a", 1, 0), entry("z", 1, 0)} {
		for _, item := range []string{itemOf(e), sepOf(e, 5)} {
			for n := range 3 {
				a, _ := blink.Enter(p, 5, item, fresh[:n]...)
				b, _ := blink.Enter(p, 1, item, fresh[:n]...)
				records = append(records, a, b)
			}
		}
	}
	if !slices.Equal(fresh, []int{7, 8, 9}) {
		panic("the pages are written into")
	}
	for _, r := range records {
		for i := range r.Images {
			items := r.Images[i].Body.Items
			for k := range items {
				items[k] = "changed"
			}
			_ = append(items, "behind")
			r.Images[i] = api.Image{}
		}
	}
}

func TestImagesAreApart(t *testing.T) {
	for _, p := range []api.Page{fullLeaf(), fullInner()} {
		for _, e := range []api.Entry{nth(1), nth(91)} {
			item := itemOf(e)
			if p.Level > 0 {
				item = sepOf(e, 5)
			}
			r, _ := blink.Enter(p, 1, item, 7, 8)
			want, _ := blink.Enter(p, 1, item, 7, 8)
			if len(r.Images) != 3 {
				t.Fatalf("%+v", r)
			}
			for i := range r.Images {
				items := r.Images[i].Body.Items
				before := slices.Clone(items)
				items[0] = "changed"
				_ = append(items, "behind", "behind too")
				for k := range r.Images {
					if k != i && !page.Same(r.Images[k].Body, want.Images[k].Body) {
						t.Errorf("image %d hangs on image %d: %q", k, i, r.Images[k].Body.Items)
					}
				}
				copy(items, before)
			}
		}
	}
}

// R3

func TestAnswersDoNotHangOnEarlierCalls(t *testing.T) {
	ask := func() string {
		a, aErr := blink.Enter(fullLeaf(), 1, itemOf(nth(1)), 7, 8)
		b, bErr := blink.Enter(fullInner(), 5, sepOf(nth(1), 5), 7)
		n, there, wayErr := blink.Way(fullInner(), 0, nth(55))
		hits, more, hitsErr := blink.Hits(fullLeaf(), "k050", "k060")
		return fmt.Sprint(a, aErr, b, bErr, n, there, wayErr, hits, more, hitsErr)
	}
	first := ask()
	for _, p := range noNodes() {
		blink.Enter(p, 1, itemOf(nth(1)), 7, 8)
		blink.Leave(p, 5, nth(0))
		blink.Hits(p, "", "")
		blink.Way(p, 0, nth(1))
		blink.Above(api.Record{Kind: api.Split, Images: []api.Image{{Body: p}, {Body: p}}})
	}
	if again := ask(); again != first {
		t.Errorf("%q, then %q", first, again)
	}
}
