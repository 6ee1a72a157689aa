package node_test

import (
	"fmt"
	"math"
	"math/rand"
	"slices"
	"strings"
	"testing"

	"almonry/api"
	"almonry/node"
	"almonry/page"
)

var (
	least   = api.Entry{}
	longKey = strings.Repeat("k", 24)
	longest = entry(longKey, 65535, 65535)
)

// numbers are those of pages and slots around each place where their bytes become one more, and at the ends.
var numbers = []int{0, 1, 2, 127, 128, 129, 255, 256, 300, 16383, 16384, 16385, 65534, 65535}

// wrongNumbers are no pages and no slots.
var wrongNumbers = []int{math.MinInt, math.MinInt + 1, -1 << 32, -65536, -1, 65536, 65537, 1 << 32, math.MaxInt - 1, math.MaxInt}

// wrongKeys are too short, or too long.
var wrongKeys = []string{"", strings.Repeat("k", 25), strings.Repeat("k", 127), strings.Repeat("k", 128), strings.Repeat("k", 1000)}

// otherKinds are those of other pages, and of none.
var otherKinds = []int{math.MinInt, -3, -1, 0, api.ClogPage, api.HeapPage, 4, 259, math.MaxInt}

func entry(key string, page, slot int) api.Entry { return api.Entry{Key: key, Page: page, Slot: slot} }

// entries are those at the edges of keys, pages and slots.
func entries() []api.Entry {
	var list []api.Entry
	for n := 1; n <= 24; n++ {
		for _, fill := range []string{"\x00", "k", "\xFF"} {
			list = append(list, entry(strings.Repeat(fill, n), 7, 300))
		}
	}
	for _, a := range numbers {
		for _, b := range numbers {
			list = append(list, entry("k", a, b))
		}
	}
	return append(list, entry("é\x00\xFF", 1, 2), longest)
}

// wrongEntries are no entries; the least is among them.
func wrongEntries() []api.Entry {
	list := []api.Entry{least, entry("", 0, 1), entry("", 1, 0), entry("", 65535, 65535), entry("", -1, -1)}
	for _, n := range wrongNumbers {
		list = append(list, entry("k", n, 0), entry("k", 0, n), entry("k", n, n), entry("", n, 0), entry("", 0, n))
	}
	for _, key := range wrongKeys {
		list = append(list, entry(key, 1, 1))
	}
	return list
}

// numOf is the sevens of a number.
func numOf(n int) string {
	if n < 128 {
		return string([]byte{byte(n)})
	}
	return string([]byte{byte(n%128 + 128)}) + numOf(n/128)
}

// bytesOf is an entry's bytes, or the least's.
func bytesOf(e api.Entry) string { return numOf(len(e.Key)) + e.Key + numOf(e.Page) + numOf(e.Slot) }

func sepOf(e api.Entry, child int) string { return bytesOf(e) + numOf(child) }

func leafOf(list ...api.Entry) api.Page {
	p := api.Page{LSN: 9, Kind: api.NodePage}
	for _, e := range list {
		p.Items = append(p.Items, bytesOf(e))
	}
	return p
}

// innerOf has the children 100, 101 and so on, the first one at the least.
func innerOf(list ...api.Entry) api.Page {
	p := api.Page{LSN: 9, Kind: api.NodePage, Level: 1, Items: []string{sepOf(least, 100)}}
	for i, e := range list {
		p.Items = append(p.Items, sepOf(e, 101+i))
	}
	return p
}

// with is a page of another Right and High.
func with(p api.Page, right int, high api.Entry) api.Page {
	p.Right, p.High = right, bytesOf(high)
	return p
}

func refuses(t *testing.T, p api.Page) {
	t.Helper()
	if err := node.Check(p); err != api.ErrNode {
		t.Errorf("Check(%+v): %v", p, err)
	}
}

// isNoLeaf asks all that is asked of leaves alone.
func isNoLeaf(t *testing.T, p api.Page) {
	t.Helper()
	if list, err := node.Entries(p); len(list) != 0 || err != api.ErrNode {
		t.Errorf("Entries(%+v): %v %v", p, list, err)
	}
	for _, e := range []api.Entry{least, entry("a", 1, 0), entry("b", 1, 0), entry("zz", 9, 9)} {
		insertFails(t, p, e, api.ErrNode)
		removeFails(t, p, e)
	}
}

// isNoInner asks all that is asked of inner nodes alone.
func isNoInner(t *testing.T, p api.Page) {
	t.Helper()
	if list, kids, err := node.Kids(p); len(list) != 0 || len(kids) != 0 || err != api.ErrNode {
		t.Errorf("Kids(%+v): %v %v %v", p, list, kids, err)
	}
	for _, e := range []api.Entry{least, entry("a", 1, 0), entry("b", 1, 0), entry("zz", 9, 9)} {
		childFails(t, p, e)
		postFails(t, p, e, 5, api.ErrNode)
	}
}

// isNoNode asks all.
func isNoNode(t *testing.T, p api.Page) {
	t.Helper()
	refuses(t, p)
	isNoLeaf(t, p)
	isNoInner(t, p)
	splitFails(t, p, 7)
	beyondFails(t, p, entry("a", 1, 0))
	beyondFails(t, p, entry("zz", 9, 9))
}

func entriesAre(t *testing.T, p api.Page, want ...api.Entry) {
	t.Helper()
	if got, err := node.Entries(p); !slices.Equal(got, want) || err != api.OK {
		t.Errorf("Entries(%q): %v %v, want %v", p.Items, got, err, want)
	}
}

func kidsAre(t *testing.T, p api.Page, seps []api.Entry, kids []int) {
	t.Helper()
	if a, b, err := node.Kids(p); !slices.Equal(a, seps) || !slices.Equal(b, kids) || err != api.OK {
		t.Errorf("Kids(%q): %v %v %v, want %v %v", p.Items, a, b, err, seps, kids)
	}
}

func beyondIs(t *testing.T, p api.Page, e api.Entry, want bool) {
	t.Helper()
	if got, err := node.Beyond(p, e); got != want || err != api.OK {
		t.Errorf("Beyond(High % X, %v): %v %v", p.High, e, got, err)
	}
}

func beyondFails(t *testing.T, p api.Page, e api.Entry) {
	t.Helper()
	if got, err := node.Beyond(p, e); got || err != api.ErrNode {
		t.Errorf("Beyond(%+v, %v): %v %v", p, e, got, err)
	}
}

func childIs(t *testing.T, p api.Page, e api.Entry, want int) {
	t.Helper()
	if got, err := node.Child(p, e); got != want || err != api.OK {
		t.Errorf("Child(%q, %v): %d %v, want %d", p.Items, e, got, err, want)
	}
}

func childFails(t *testing.T, p api.Page, e api.Entry) {
	t.Helper()
	if got, err := node.Child(p, e); got != 0 || err != api.ErrNode {
		t.Errorf("Child(%+v, %v): %d %v", p, e, got, err)
	}
}

func isPage(t *testing.T, what string, got api.Page, err api.Errno, want api.Page) {
	t.Helper()
	if err != api.OK || !page.Same(got, want) {
		t.Errorf("%s: %+v %v, want %+v", what, got, err, want)
	}
}

func isNothing(t *testing.T, what string, got api.Page, err, want api.Errno) {
	t.Helper()
	if err != want || !page.Same(got, api.Page{}) {
		t.Errorf("%s: %+v %v, want %v", what, got, err, want)
	}
}

func insertFails(t *testing.T, p api.Page, e api.Entry, want api.Errno) {
	t.Helper()
	q, err := node.Insert(p, e)
	isNothing(t, fmt.Sprintf("Insert(%+v, %v)", p, e), q, err, want)
}

func removeFails(t *testing.T, p api.Page, e api.Entry) {
	t.Helper()
	q, err := node.Remove(p, e)
	isNothing(t, fmt.Sprintf("Remove(%+v, %v)", p, e), q, err, api.ErrNode)
}

func postFails(t *testing.T, p api.Page, e api.Entry, child int, want api.Errno) {
	t.Helper()
	q, err := node.Post(p, e, child)
	isNothing(t, fmt.Sprintf("Post(%+v, %v, %d)", p, e, child), q, err, want)
}

func splits(t *testing.T, p api.Page, right int, wantLeft, wantRight api.Page, want api.Entry) {
	t.Helper()
	a, b, e, err := node.Split(p, right)
	isPage(t, "the left half", a, err, wantLeft)
	isPage(t, "the right half", b, err, wantRight)
	if e != want {
		t.Errorf("Split(%+v): %v, want %v", p, e, want)
	}
}

func splitFails(t *testing.T, p api.Page, right int) {
	t.Helper()
	a, b, e, err := node.Split(p, right)
	isNothing(t, fmt.Sprintf("Split(%+v, %d)", p, right), a, err, api.ErrNode)
	isNothing(t, fmt.Sprintf("Split(%+v, %d)", p, right), b, err, api.ErrNode)
	if e != least {
		t.Errorf("Split(%+v, %d): %v", p, right, e)
	}
}

func TestExamples(t *testing.T) {
	if got, err := node.Encode(entry("k", 300, 2)); got != "\x01\x6B\xAC\x02\x02" || err != api.OK {
		t.Errorf("Encode: % X %v", got, err)
	}
	a, b := entry("a", 2, 0), entry("b", 1, 0)
	p, err := node.Insert(node.Leaf(), b)
	isPage(t, "Insert of b", p, err, api.Page{Kind: 3, Items: []string{bytesOf(b)}})
	p, err = node.Insert(p, a)
	isPage(t, "Insert of a", p, err, api.Page{Kind: 3, Items: []string{bytesOf(a), bytesOf(b)}})
	entriesAre(t, p, a, b)
	insertFails(t, p, a, api.ErrNode)
	removeFails(t, p, entry("c", 1, 0))
	splits(t, p, 7,
		api.Page{Kind: 3, Right: 7, High: bytesOf(a), Items: []string{bytesOf(a)}},
		api.Page{Kind: 3, Items: []string{bytesOf(b)}}, a)
	r, err := node.Root(1, 5, a, 7)
	isPage(t, "Root", r, err, api.Page{Kind: 3, Level: 1, Items: []string{"\x00\x00\x00\x05", "\x01a\x02\x00\x07"}})
	childIs(t, r, a, 5)
	childIs(t, r, entry("a", 2, 1), 7)
	r, err = node.Post(r, entry("c", 1, 1), 9)
	isPage(t, "Post", r, err, api.Page{Kind: 3, Level: 1, Items: []string{"\x00\x00\x00\x05", "\x01a\x02\x00\x07", "\x01c\x01\x01\x09"}})
	childIs(t, r, entry("d", 0, 0), 9)
}

// P14.1

func TestEntryBytes(t *testing.T) {
	for _, e := range entries() {
		item := bytesOf(e)
		if got, err := node.Encode(e); got != item || err != api.OK {
			t.Errorf("Encode(%v): % X %v, want % X", e, got, err, item)
		}
		if got, err := node.Decode(item); got != e || err != api.OK {
			t.Errorf("Decode(% X): %v %v, want %v", item, got, err, e)
		}
	}
}

func TestNoEntry(t *testing.T) {
	for _, e := range wrongEntries() {
		if got, err := node.Encode(e); got != "" || err != api.ErrNode {
			t.Errorf("Encode(%v): % X %v", e, got, err)
		}
		if e.Page >= 0 && e.Slot >= 0 {
			undecodable(t, bytesOf(e))
		}
	}
}

func undecodable(t *testing.T, item string) {
	t.Helper()
	if got, err := node.Decode(item); got != least || err != api.ErrNode {
		t.Errorf("Decode(% X): %v %v", item, got, err)
	}
}

func TestSeparatorBytes(t *testing.T) {
	for _, e := range append(entries(), least) {
		for _, child := range numbers[1:] {
			item := sepOf(e, child)
			if got, err := node.Sep(e, child); got != item || err != api.OK {
				t.Errorf("Sep(%v, %d): % X %v, want % X", e, child, got, err, item)
			}
			if got, c, err := node.Unsep(item); got != e || c != child || err != api.OK {
				t.Errorf("Unsep(% X): %v %d %v, want %v %d", item, got, c, err, e, child)
			}
		}
	}
}

func TestNoSeparator(t *testing.T) {
	for _, e := range append(wrongEntries(), entries()...) {
		if e != least {
			noSeparator(t, e, 0)
		}
		for _, child := range wrongNumbers {
			noSeparator(t, e, child)
		}
	}
	for _, e := range wrongEntries()[1:] {
		for _, child := range numbers {
			noSeparator(t, e, child)
		}
	}
	noSeparator(t, least, 0)
}

func noSeparator(t *testing.T, e api.Entry, child int) {
	t.Helper()
	if got, err := node.Sep(e, child); got != "" || err != api.ErrNode {
		t.Errorf("Sep(%v, %d): % X %v", e, child, got, err)
	}
	if e.Page >= 0 && e.Slot >= 0 && child >= 0 {
		unreadable(t, sepOf(e, child))
	}
}

func unreadable(t *testing.T, item string) {
	t.Helper()
	if got, c, err := node.Unsep(item); got != least || c != 0 || err != api.ErrNode {
		t.Errorf("Unsep(% X): %v %d %v", item, got, c, err)
	}
}

func TestBytesTooFewOrTooMany(t *testing.T) {
	for _, e := range []api.Entry{entry("k", 0, 0), entry("key", 300, 7), entry("k", 7, 300), longest} {
		item, sep := bytesOf(e), sepOf(e, 300)
		for n := range item {
			undecodable(t, item[:n])
			unreadable(t, item[:n])
		}
		unreadable(t, item)
		undecodable(t, sep)
		for n := len(item); n < len(sep); n++ {
			unreadable(t, sep[:n])
		}
		for next := range 256 {
			undecodable(t, item+string([]byte{byte(next)}))
			unreadable(t, sep+string([]byte{byte(next)}))
		}
		undecodable(t, item+item)
		unreadable(t, item+item)
		undecodable(t, strings.Repeat("\xFF", 1000))
		unreadable(t, strings.Repeat("\xFF", 1000))
	}
}

// A number in more sevens than it takes is not what bits.Num lays.
func TestNumbersInTooManySevens(t *testing.T) {
	for _, item := range []string{"\x81\x00k\x01\x01", "\x01k\x81\x00\x01", "\x01k\x01\x81\x00", "\x01k\x80\x00\x01", "\x80\x00\x00\x00"} {
		undecodable(t, item)
		unreadable(t, item+"\x05")
	}
	unreadable(t, "\x01k\x01\x01\x85\x00")
	unreadable(t, "\x00\x00\x00\x85\x00")
	unreadable(t, "\x00\x80\x00\x00\x05")
}

func TestCompare(t *testing.T) {
	rising := []api.Entry{
		least,
		entry("", 0, 1),
		entry("", 1, 0),
		entry("\x00", math.MinInt, math.MaxInt),
		entry("\x00", 0, 0),
		entry("\x00\x00", 0, 0),
		entry("a", math.MinInt, math.MinInt),
		entry("a", math.MinInt, math.MaxInt),
		entry("a", -1, 0),
		entry("a", 0, math.MinInt),
		entry("a", 0, -1),
		entry("a", 0, 9),
		entry("a", 1, 0),
		entry("a", 300, 1),
		entry("a", math.MaxInt, math.MinInt),
		entry("a", math.MaxInt, math.MaxInt),
		entry("a\x00", 0, 0),
		entry("ab", 0, 0),
		entry("b", 0, 0),
		entry("b\xFF", 0, 0),
		entry("\x7F", 5, 5),
		entry("\x80", 0, 0),
		entry("é", 0, 0),
		entry("\xFF", 0, 0),
		entry(strings.Repeat("\xFF", 100), 0, 0),
		entry(strings.Repeat("\xFF", 101), -5, 0),
	}
	for i, a := range rising {
		for j, b := range rising {
			want := 0
			if i < j {
				want = -1
			} else if i > j {
				want = 1
			}
			if got := node.Compare(a, b); got != want {
				t.Errorf("Compare(%v, %v): %d, want %d", a, b, got, want)
			}
		}
	}
	// Keys that are the same, but not the same memory.
	if got := node.Compare(entry(strings.Clone(longKey), 1, 1), entry(strings.Clone(longKey), 1, 1)); got != 0 {
		t.Errorf("Compare of the same two: %d", got)
	}
}

// P14.2

func TestLeaf(t *testing.T) {
	if p := node.Leaf(); !page.Same(p, api.Page{Kind: 3}) {
		t.Errorf("Leaf: %+v", p)
	}
	if err := node.Check(node.Leaf()); err != api.OK {
		t.Error(err)
	}
	entriesAre(t, node.Leaf())
	isNoInner(t, node.Leaf())
}

func takes(t *testing.T, p api.Page) {
	t.Helper()
	if err := node.Check(p); err != api.OK {
		t.Errorf("Check(%+v): %v", p, err)
	}
}

func TestCheckOfLeaves(t *testing.T) {
	a, b, c := entry("a", 1, 0), entry("a", 1, 1), entry("ab", 0, 0)
	for _, p := range []api.Page{leafOf(), leafOf(a), leafOf(longest), leafOf(a, b, c), with(leafOf(), 0, a), with(leafOf(a, b), 65535, b), with(leafOf(a, b), 1, c), with(leafOf(a), 0, longest)} {
		takes(t, p)
		isNoInner(t, p)
	}
	for _, p := range []api.Page{
		leafOf(a, a), leafOf(b, a), leafOf(a, c, b), leafOf(c, b, a), leafOf(a, b, c, a),
		with(leafOf(a, b), 1, a), with(leafOf(a, b, c), 1, b), with(leafOf(a), 1, entry("a", 0, 65535)),
		leafOf(least), leafOf(least, a), leafOf(a, least), leafOf(entry(longKey+"k", 0, 0)), leafOf(entry("a", 65536, 0)), leafOf(entry("", 1, 1)),
	} {
		isNoNode(t, p)
	}
	for _, item := range []string{"", "a", "\x01a", "\x01a\x00", "\x01a\x00\x00\x00", sepOf(a, 1), sepOf(least, 1)} {
		isNoNode(t, api.Page{Kind: api.NodePage, Items: []string{item}})
		isNoNode(t, api.Page{Kind: api.NodePage, Items: []string{bytesOf(a), item}})
		isNoNode(t, api.Page{Kind: api.NodePage, Items: []string{item, bytesOf(longest)}})
	}
}

func TestCheckOfInnerNodes(t *testing.T) {
	a, b, c := entry("a", 1, 0), entry("a", 1, 1), entry("ab", 0, 0)
	twice := innerOf(a)
	twice.Items[1] = sepOf(a, 100)
	for _, p := range []api.Page{innerOf(), innerOf(a), innerOf(longest), innerOf(a, b, c), twice, with(innerOf(), 0, a), with(innerOf(a), 65535, b), with(innerOf(a, b), 1, c)} {
		for _, level := range []int{1, 2, 254, 255} {
			p.Level = level
			takes(t, p)
			isNoLeaf(t, p)
		}
	}
	for _, p := range []api.Page{
		innerOf(a, a), innerOf(b, a), innerOf(a, c, b), innerOf(a, b, c, a), innerOf(least), innerOf(a, least),
		with(innerOf(a), 1, a), with(innerOf(a, b), 1, b), with(innerOf(a, b), 1, a), with(innerOf(a, b, c), 1, b),
		innerOf(entry(longKey+"k", 0, 0)), innerOf(entry("a", 0, 65536)), innerOf(entry("", 1, 1)),
	} {
		isNoNode(t, p)
	}
	// The least is missing, or stands elsewhere, or there is no item.
	for _, items := range [][]string{nil, {}, {sepOf(a, 1)}, {sepOf(a, 1), sepOf(b, 2)}, {sepOf(a, 1), sepOf(least, 2)}} {
		isNoNode(t, api.Page{Kind: api.NodePage, Level: 1, Items: items})
	}
	for _, item := range []string{"", "a", bytesOf(a), bytesOf(least), sepOf(a, 0), sepOf(least, 0), sepOf(a, 65536), sepOf(a, 1) + "\x01"} {
		isNoNode(t, api.Page{Kind: api.NodePage, Level: 1, Items: []string{item}})
		isNoNode(t, api.Page{Kind: api.NodePage, Level: 1, Items: []string{sepOf(least, 1), item}})
		isNoNode(t, api.Page{Kind: api.NodePage, Level: 1, Items: []string{sepOf(least, 1), item, sepOf(longest, 1)}})
	}
}

func TestCheckOfTheOtherFields(t *testing.T) {
	a, b := entry("a", 1, 0), entry("b", 1, 0)
	for _, p := range []api.Page{leafOf(), leafOf(a, b), innerOf(a, b)} {
		for _, kind := range otherKinds {
			q := p
			q.Kind = kind
			isNoNode(t, q)
		}
		for _, right := range wrongNumbers {
			q := p
			q.Right = right
			isNoNode(t, q)
		}
		for _, level := range []int{math.MinInt, -256, -1, 256, 257, math.MaxInt} {
			q := p
			q.Level = level
			isNoNode(t, q)
		}
		for _, high := range []string{"x", "\x00", bytesOf(least), sepOf(longest, 1), bytesOf(entry(longKey+"z", 0, 0)), bytesOf(entry("z", 65536, 0)), strings.Repeat("z", 255), strings.Repeat("z", 600)} {
			q := p
			q.High = high
			isNoNode(t, q)
		}
	}
}

// What page.Encode refuses Check refuses, too; it is a node for all that, and the other calls take it.
func TestNodesThatAreNoPages(t *testing.T) {
	var many []api.Entry
	for i := range 300 {
		many = append(many, entry("k", 1, i))
	}
	for _, n := range []int{100, 255, 256, 300} {
		leaf, inner := leafOf(many[:n]...), innerOf(many[:n]...)
		refuses(t, leaf)
		refuses(t, inner)
		entriesAre(t, leaf, many[:n]...)
		beyondIs(t, leaf, longest, false)
		insertFails(t, leaf, entry("z", 1, 1), api.ErrLong)
		insertFails(t, leaf, many[3], api.ErrNode)
		postFails(t, inner, entry("z", 1, 1), 5, api.ErrLong)
		postFails(t, inner, many[3], 5, api.ErrNode)
		childIs(t, inner, entry("z", 1, 1), 100+n)
		q, err := node.Remove(leaf, many[n-1])
		isPage(t, "Remove", q, err, leafOf(many[:n-1]...))
		half := (n + 1) / 2
		splits(t, leaf, 7, with(leafOf(many[:half]...), 7, many[half-1]), leafOf(many[half:n]...), many[half-1])
	}
	for _, lsn := range []int{-1, math.MinInt} {
		p := leafOf(entry("a", 1, 0))
		p.LSN = lsn
		refuses(t, p)
		entriesAre(t, p, entry("a", 1, 0))
		want := leafOf(entry("a", 1, 0), entry("b", 1, 0))
		want.LSN = lsn
		q, err := node.Insert(p, entry("b", 1, 0))
		isPage(t, "Insert", q, err, want)
	}
	p := leafOf()
	p.LSN = math.MaxInt
	takes(t, p)
}

// To the last byte of a page, and beyond.
func TestCheckOfFullPages(t *testing.T) {
	for n := 1; n <= 24; n++ {
		p := leafOf()
		for i := 0; page.Room(p) >= 31; i++ {
			p.Items = append(p.Items, bytesOf(entry(fmt.Sprintf("%02d", i)+longKey[:22], 65535, 65535)))
		}
		p.Items = append(p.Items, bytesOf(entry(strings.Repeat("z", n), 1, 1)))
		if page.Size(p) <= 512 {
			takes(t, p)
		} else {
			refuses(t, p)
		}
	}
}

// P14.3

func TestKids(t *testing.T) {
	a, b := entry("a", 1, 0), entry("b", 1, 0)
	kidsAre(t, innerOf(), []api.Entry{least}, []int{100})
	kidsAre(t, innerOf(a, b), []api.Entry{least, a, b}, []int{100, 101, 102})
	kidsAre(t, with(innerOf(a, b), 9, longest), []api.Entry{least, a, b}, []int{100, 101, 102})
	p := api.Page{Kind: api.NodePage, Level: 255, Items: []string{sepOf(least, 65535), sepOf(longest, 1)}}
	kidsAre(t, p, []api.Entry{least, longest}, []int{65535, 1})
}

func TestBeyond(t *testing.T) {
	high := entry("m", 5, 5)
	for _, p := range []api.Page{leafOf(), leafOf(entry("a", 1, 0)), leafOf(high), innerOf(), innerOf(entry("a", 1, 0))} {
		bounded := with(p, 3, high)
		for _, e := range []api.Entry{entry("\x00", 0, 0), entry("a", 1, 0), entry("l", 65535, 65535), entry("m", 4, 65535), entry("m", 5, 4), high} {
			beyondIs(t, bounded, e, false)
			beyondIs(t, p, e, false)
		}
		for _, e := range []api.Entry{entry("m", 5, 6), entry("m", 6, 0), entry("m\x00", 0, 0), entry("n", 0, 0), entry("\xFF", 0, 0)} {
			beyondIs(t, bounded, e, true)
			beyondIs(t, p, e, false)
		}
		for _, e := range wrongEntries() {
			beyondFails(t, p, e)
			beyondFails(t, bounded, e)
		}
	}
}

func TestChild(t *testing.T) {
	p := innerOf(entry("b", 5, 5), entry("b", 5, 7), entry("c", 0, 0))
	for _, x := range []struct {
		e    api.Entry
		want int
	}{
		{entry("\x00", 0, 0), 100},
		{entry("b", 5, 4), 100},
		{entry("b", 4, 65535), 100},
		{entry("b", 5, 5), 100},
		{entry("b", 5, 6), 101},
		{entry("b", 5, 7), 101},
		{entry("b", 5, 8), 102},
		{entry("b", 6, 0), 102},
		{entry("c", 0, 0), 102},
		{entry("c", 0, 1), 103},
		{longest, 103},
	} {
		childIs(t, p, x.e, x.want)
		childIs(t, with(p, 3, longest), x.e, x.want)
		childIs(t, innerOf(), x.e, 100)
	}
	bounded := with(p, 3, entry("d", 1, 1))
	childIs(t, bounded, entry("d", 1, 1), 103)
	childFails(t, bounded, entry("d", 1, 2))
	childFails(t, bounded, longest)
	for _, e := range wrongEntries() {
		childFails(t, p, e)
		childFails(t, bounded, e)
	}
}

// P14.4

func TestInsert(t *testing.T) {
	a, b, c := entry("a", 9, 9), entry("b", 1, 0), entry("b", 1, 1)
	for _, x := range []struct{ p, want api.Page }{
		{leafOf(a, c), leafOf(a, b, c)},
		{leafOf(), leafOf(b)},
		{leafOf(a), leafOf(a, b)},
		{leafOf(c), leafOf(b, c)},
		{with(leafOf(a), 4, b), with(leafOf(a, b), 4, b)},
		{with(leafOf(a), 65535, c), with(leafOf(a, b), 65535, c)},
	} {
		q, err := node.Insert(x.p, b)
		isPage(t, "Insert", q, err, x.want)
		takes(t, q)
		insertFails(t, q, b, api.ErrNode)
	}
	insertFails(t, with(leafOf(a), 4, b), c, api.ErrNode)
	insertFails(t, with(leafOf(), 4, a), b, api.ErrNode)
	isNoLeaf(t, innerOf(a))
	for _, e := range wrongEntries() {
		insertFails(t, leafOf(a, c), e, api.ErrNode)
		insertFails(t, leafOf(), e, api.ErrNode)
	}
}

func TestRemove(t *testing.T) {
	a, b, c := entry("a", 9, 9), entry("b", 1, 0), entry("b", 1, 1)
	for _, x := range []struct{ p, want api.Page }{
		{leafOf(a, b, c), leafOf(a, c)},
		{leafOf(b), leafOf()},
		{leafOf(a, b), leafOf(a)},
		{leafOf(b, c), leafOf(c)},
		{with(leafOf(a, b), 4, b), with(leafOf(a), 4, b)},
	} {
		q, err := node.Remove(x.p, b)
		isPage(t, "Remove", q, err, x.want)
		takes(t, q)
		removeFails(t, q, b)
	}
	for _, e := range append(wrongEntries(), entry("b", 0, 1), entry("b", 2, 0), entry("B", 1, 0), entry("bb", 1, 0), longest) {
		removeFails(t, leafOf(a, b, c), e)
		removeFails(t, leafOf(), e)
	}
}

func TestPost(t *testing.T) {
	a, b, c := entry("a", 9, 9), entry("b", 1, 0), entry("b", 1, 1)
	for _, child := range numbers[1:] {
		p := innerOf(a, c)
		want := p
		want.Items = slices.Insert(slices.Clone(p.Items), 2, sepOf(b, child))
		q, err := node.Post(p, b, child)
		isPage(t, "Post", q, err, want)
		q, err = node.Post(with(p, 4, longest), b, child)
		isPage(t, "Post below High", q, err, with(want, 4, longest))
		takes(t, q)
		postFails(t, q, b, child, api.ErrNode)
	}
	q, err := node.Post(innerOf(), b, 101)
	isPage(t, "Post of the first one", q, err, innerOf(b))
	q, err = node.Post(innerOf(a), b, 102)
	isPage(t, "Post behind all", q, err, innerOf(a, b))
	q, err = node.Post(innerOf(), entry("\x00", 0, 0), 101)
	isPage(t, "Post right behind the least", q, err, innerOf(entry("\x00", 0, 0)))

	postFails(t, with(innerOf(a), 4, b), b, 5, api.ErrNode)
	postFails(t, with(innerOf(a), 4, b), c, 5, api.ErrNode)
	postFails(t, innerOf(a, b), a, 5, api.ErrNode)
	isNoInner(t, leafOf(a))
	for _, e := range wrongEntries() {
		postFails(t, innerOf(a, c), e, 5, api.ErrNode)
	}
	for _, child := range append(wrongNumbers, 0) {
		postFails(t, innerOf(a, c), b, child, api.ErrNode)
	}
}

// A node takes items up to the last byte, and ErrNode is told ahead of ErrLong.
func TestFullNodes(t *testing.T) {
	for n := 1; n <= 24; n++ {
		leaf, inner := leafOf(), innerOf()
		for i := 0; page.Room(leaf) >= 33; i++ {
			leaf.Items = append(leaf.Items, bytesOf(entry(fmt.Sprintf("%02d", i)+longKey[:22], 65535, 65535)))
		}
		for i := 0; page.Room(inner) >= 36; i++ {
			inner.Items = append(inner.Items, sepOf(entry(fmt.Sprintf("%02d", i)+longKey[:22], 65535, 65535), 65535))
		}
		e := entry(strings.Repeat("z", n), 1, 1)
		fits := page.Room(leaf) >= len(bytesOf(e))
		if q, err := node.Insert(leaf, e); fits != (err == api.OK) || !fits && err != api.ErrLong || fits && len(q.Items) != len(leaf.Items)+1 {
			t.Errorf("Insert of %d bytes, room %d: %v", len(bytesOf(e)), page.Room(leaf), err)
		}
		fits = page.Room(inner) >= len(sepOf(e, 5))
		if q, err := node.Post(inner, e, 5); fits != (err == api.OK) || !fits && err != api.ErrLong || fits && len(q.Items) != len(inner.Items)+1 {
			t.Errorf("Post of %d bytes, room %d: %v", len(sepOf(e, 5)), page.Room(inner), err)
		}
		first, _ := node.Decode(leaf.Items[0])
		insertFails(t, leaf, first, api.ErrNode)
		postFails(t, inner, first, 5, api.ErrNode)
		postFails(t, inner, longest, 0, api.ErrNode)
		insertFails(t, leaf, least, api.ErrNode)
	}
}

// P14.5

func TestSplitOfLeaves(t *testing.T) {
	var list []api.Entry
	for n := range 12 {
		if n < 2 {
			splitFails(t, leafOf(list...), 7)
		} else {
			k := n - n/2
			for _, right := range numbers[1:] {
				splits(t, leafOf(list...), right, with(leafOf(list[:k]...), right, list[k-1]), leafOf(list[k:]...), list[k-1])
				p := with(leafOf(list...), 300, longest)
				splits(t, p, right, with(leafOf(list[:k]...), right, list[k-1]), with(leafOf(list[k:]...), 300, longest), list[k-1])
			}
			for _, right := range append(wrongNumbers, 0) {
				splitFails(t, leafOf(list...), right)
			}
		}
		list = append(list, entry("k", n, n))
	}
}

func TestSplitOfInnerNodes(t *testing.T) {
	var list []api.Entry
	for n := 1; n < 12; n++ {
		p := innerOf(list...)
		p.Level = 20 * n
		if n < 2 {
			splitFails(t, p, 7)
		} else {
			k := n - n/2
			left, rest := p, p
			left.Items = p.Items[:k]
			rest.Items = append([]string{sepOf(least, 100+k)}, p.Items[k+1:]...)
			for _, right := range numbers[1:] {
				splits(t, p, right, with(left, right, list[k-1]), rest, list[k-1])
				splits(t, with(p, 300, longest), right, with(left, right, list[k-1]), with(rest, 300, longest), list[k-1])
			}
			for _, right := range append(wrongNumbers, 0) {
				splitFails(t, p, right)
			}
		}
		list = append(list, entry("k", n, n))
	}
}

// P14.6

func TestRoot(t *testing.T) {
	for _, level := range []int{1, 2, 254, 255} {
		for _, e := range entries() {
			want := api.Page{Kind: api.NodePage, Level: level, Items: []string{sepOf(least, 65535), sepOf(e, 1)}}
			p, err := node.Root(level, 65535, e, 1)
			isPage(t, "Root", p, err, want)
			takes(t, p)
			want.Items = []string{sepOf(least, 1), sepOf(e, 65535)}
			p, err = node.Root(level, 1, e, 65535)
			isPage(t, "Root", p, err, want)
		}
	}
	rootFails := func(level, left int, e api.Entry, right int) {
		t.Helper()
		p, err := node.Root(level, left, e, right)
		isNothing(t, fmt.Sprintf("Root(%d, %d, %v, %d)", level, left, e, right), p, err, api.ErrNode)
	}
	a := entry("a", 2, 0)
	for _, level := range []int{math.MinInt, -1, 0, 256, 257, math.MaxInt} {
		rootFails(level, 5, a, 7)
	}
	for _, child := range append(wrongNumbers, 0) {
		rootFails(1, child, a, 7)
		rootFails(1, 5, a, child)
	}
	for _, e := range wrongEntries() {
		rootFails(1, 5, e, 7)
	}
}

// P14.7

func TestBytesAreTheSameJustIfEntriesAre(t *testing.T) {
	seen := map[string]api.Entry{}
	var all []api.Entry
	for _, key := range []string{"\x00", "\x00\x00", "\x01", "\x01\x01", "k", "kk", "\x01k", "k\x01", "\x80", "\x80\x01"} {
		for _, a := range numbers {
			for _, b := range numbers {
				all = append(all, entry(key, a, b))
			}
		}
	}
	for _, e := range all {
		item, _ := node.Encode(e)
		if other, ok := seen[item]; ok {
			t.Errorf("%v and %v are % X both", e, other, item)
		}
		seen[item] = e
	}
}

// What Decode and Unsep take is laid as the same bytes: all short items of some bytes.
func TestShortItems(t *testing.T) {
	letters := []byte{0, 1, 2, 3, 'k', 127, 128, 255}
	decoded, unsepped := 0, 0
	var grow func(string)
	grow = func(item string) {
		if e, err := node.Decode(item); err == api.OK {
			decoded++
			if bytesOf(e) != item {
				t.Errorf("% X is %v", item, e)
			}
		} else if e != least || err != api.ErrNode {
			t.Errorf("Decode(% X): %v %v", item, e, err)
		}
		if e, child, err := node.Unsep(item); err == api.OK {
			unsepped++
			if sepOf(e, child) != item || child < 1 {
				t.Errorf("% X is %v, %d", item, e, child)
			}
		} else if e != least || child != 0 || err != api.ErrNode {
			t.Errorf("Unsep(% X): %v %d %v", item, e, child, err)
		}
		for _, c := range letters {
			if len(item) < 5 {
				grow(item + string([]byte{c}))
			}
		}
	}
	grow("")
	// A number is one of 6 of one byte, or of 10 of two; a key one of 8 of one byte, or of 64 of two.
	if want := 8*(6*6+2*6*10) + 64*6*6; decoded != want {
		t.Errorf("%d items were entries, want %d", decoded, want)
	}
	// A child is one of 5 of one byte, or of 10 of two.
	if want := 5 + 10 + 8*6*6*5; unsepped != want {
		t.Errorf("%d items were separators, want %d", unsepped, want)
	}
}

// model is what a page says by a second reading of the chapter.
type model struct {
	leaf, inner bool
	list        []api.Entry
	kids        []int
	high        []api.Entry // one, or none
}

// ahead is the order, byte by byte: as texts in which a 1 is ahead of each byte of the key, and a 0 behind the last one.
func ahead(a, b api.Entry) bool {
	text := func(e api.Entry) string {
		var laid []byte
		for i := range len(e.Key) {
			laid = append(laid, 1, e.Key[i])
		}
		return string(append(laid, 0, byte(e.Page>>8), byte(e.Page), byte(e.Slot>>8), byte(e.Slot)))
	}
	return text(a) < text(b)
}

// parts is the key and the numbers behind it, if they are laid as they must be.
func parts(item string) (key string, ns []int, ok bool) {
	if item == "" || int(item[0]) > 24 || len(item) < 1+int(item[0]) {
		return "", nil, false
	}
	key, rest := item[1:1+int(item[0])], item[1+int(item[0]):]
	for rest != "" {
		n, size := 0, 0
		for size < len(rest) && size < 3 && rest[size] >= 128 {
			n += int(rest[size]-128) << (7 * size)
			size++
		}
		if size == len(rest) || rest[size] >= 128 {
			return "", nil, false
		}
		n += int(rest[size]) << (7 * size)
		if n > 65535 || !strings.HasPrefix(rest, numOf(n)) {
			return "", nil, false
		}
		ns, rest = append(ns, n), rest[size+1:]
	}
	return key, ns, true
}

func modelOf(p api.Page) model {
	var m model
	ok := p.Kind == 3 && p.Level >= 0 && p.Level < 256 && p.Right >= 0 && p.Right < 65536
	if p.High != "" {
		key, ns, high := parts(p.High)
		ok = ok && high && key != "" && len(ns) == 2
		if ok {
			m.high = []api.Entry{entry(key, ns[0], ns[1])}
		}
	}
	width := 2
	if p.Level > 0 {
		width = 3
		ok = ok && len(p.Items) > 0
	}
	for i, item := range p.Items {
		key, ns, laid := parts(item)
		if !laid || len(ns) != width {
			return model{}
		}
		e := entry(key, ns[0], ns[1])
		if width == 3 {
			m.kids = append(m.kids, ns[2])
			ok = ok && ns[2] != 0 && (i == 0) == (e == least)
			ok = ok && (i == 0 || m.below(e))
		} else {
			ok = ok && !m.beyond(e)
		}
		ok = ok && (e == least && width == 3 || key != "") && (i == 0 || ahead(m.list[i-1], e))
		m.list = append(m.list, e)
	}
	if !ok {
		return model{}
	}
	m.leaf, m.inner = width == 2, width == 3
	return m
}

func (m model) beyond(e api.Entry) bool { return len(m.high) > 0 && ahead(m.high[0], e) }

func (m model) below(e api.Entry) bool { return len(m.high) == 0 || ahead(e, m.high[0]) }

// before is how many are ahead of an entry.
func (m model) before(e api.Entry) int {
	n := 0
	for _, x := range m.list {
		if ahead(x, e) {
			n++
		}
	}
	return n
}

func isEntry(e api.Entry) bool {
	return e.Key != "" && len(e.Key) < 25 && max(e.Page, e.Slot) < 65536 && min(e.Page, e.Slot) >= 0
}

func errOf(ok bool) api.Errno {
	if ok {
		return api.OK
	}
	return api.ErrNode
}

// changes holds a call that changes a node against what its page with that list of items is.
func changes(t *testing.T, what string, p, q api.Page, err api.Errno, ok bool, items []string) {
	t.Helper()
	want := p
	want.Items = items
	switch {
	case !ok:
		isNothing(t, what, q, err, api.ErrNode)
	case page.Size(want) > 512:
		isNothing(t, what, q, err, api.ErrLong)
	default:
		isPage(t, what, q, err, want)
	}
}

// asked holds all calls of a page and an entry against the model.
func asked(t *testing.T, p api.Page, e api.Entry, child int) {
	t.Helper()
	m := modelOf(p)
	what := fmt.Sprintf("%+v, %v, %d", p, e, child)
	_, encoded := page.Encode(p)
	if got := node.Check(p); got != errOf((m.leaf || m.inner) && encoded == api.OK) {
		t.Errorf("Check of %s: %v", what, got)
	}
	if list, err := node.Entries(p); err != errOf(m.leaf) || m.leaf && !slices.Equal(list, m.list) {
		t.Errorf("Entries of %s: %v %v", what, list, err)
	}
	if list, kids, err := node.Kids(p); err != errOf(m.inner) || m.inner && (!slices.Equal(list, m.list) || !slices.Equal(kids, m.kids)) {
		t.Errorf("Kids of %s: %v %v %v", what, list, kids, err)
	}
	ok := (m.leaf || m.inner) && isEntry(e)
	if got, err := node.Beyond(p, e); err != errOf(ok) || got != (ok && m.beyond(e)) {
		t.Errorf("Beyond of %s: %v %v", what, got, err)
	}
	ok = m.inner && isEntry(e) && !m.beyond(e)
	got, err := node.Child(p, e)
	if err != errOf(ok) || ok && got != m.kids[m.before(e)-1] || !ok && got != 0 {
		t.Errorf("Child of %s: %d %v", what, got, err)
	}
	there := slices.Contains(m.list, e)
	q, err := node.Insert(p, e)
	ok = m.leaf && isEntry(e) && !m.beyond(e) && !there
	changes(t, "Insert of "+what, p, q, err, ok, added(p, m.before(e), ok, e))
	q, err = node.Remove(p, e)
	ok = m.leaf && there
	changes(t, "Remove of "+what, p, q, err, ok, removed(p, m.before(e), ok))
	q, err = node.Post(p, e, child)
	ok = m.inner && isEntry(e) && m.below(e) && !there && child > 0 && child < 65536
	changes(t, "Post of "+what, p, q, err, ok, added(p, m.before(e), ok, e, child))
	if len(m.list) < 2 || child < 1 || child > 65535 {
		splitFails(t, p, child)
	}
}

func added(p api.Page, at int, ok bool, e api.Entry, child ...int) []string {
	if !ok {
		return nil
	}
	item := bytesOf(e)
	for _, c := range child {
		item += numOf(c)
	}
	return slices.Insert(slices.Clone(p.Items), at, item)
}

func removed(p api.Page, at int, ok bool) []string {
	if !ok {
		return nil
	}
	return slices.Delete(slices.Clone(p.Items), at, at+1)
}

// someEntry is one of few, so that it is met again; seldom none.
func someEntry(random *rand.Rand) api.Entry {
	keys := []string{"a", "ab", "b", "b\x00", "c", "\x00", "\xFF", longKey}
	pages := []int{0, 1, 127, 128, 300, 65535}
	if random.Intn(30) == 0 {
		wrong := wrongEntries()
		return wrong[random.Intn(len(wrong))]
	}
	return entry(keys[random.Intn(len(keys))], pages[random.Intn(len(pages))], pages[random.Intn(len(pages))])
}

// someNode is a node, of up to so many items; of the level 0, or above.
func someNode(random *rand.Rand, most int) api.Page {
	var list []api.Entry
	for range random.Intn(most) {
		if e := someEntry(random); isEntry(e) {
			list = append(list, e)
		}
	}
	slices.SortFunc(list, func(a, b api.Entry) int {
		if ahead(a, b) {
			return -1
		}
		return 1
	})
	list = slices.Compact(list)
	p := leafOf(list...)
	if random.Intn(2) == 0 {
		p = innerOf(list...)
		p.Level = 1 + random.Intn(255)
	}
	p.Right = random.Intn(3) * 32767
	if e := someEntry(random); random.Intn(2) == 0 && isEntry(e) {
		m := modelOf(p)
		m.high = []api.Entry{e}
		if last := len(m.list) - 1; last < 0 || m.leaf && !m.beyond(m.list[last]) || m.inner && m.below(m.list[last]) {
			p.High = bytesOf(e)
		}
	}
	return p
}

// spoilt is a page with a fault, mostly.
func spoilt(random *rand.Rand, p api.Page) api.Page {
	p.Items = slices.Clone(p.Items)
	other := someEntry(random)
	other.Page, other.Slot = max(other.Page, 0)%70000, max(other.Slot, 0)%70000
	switch random.Intn(8) {
	case 0:
		p.Kind = random.Intn(5)
	case 1:
		p.Level = []int{-1, 0, 1, 255, 256}[random.Intn(5)]
	case 2:
		p.Right = []int{-1, 0, 65535, 65536}[random.Intn(4)]
	case 3:
		p.High = bytesOf(other)
	case 4:
		p.High = sepOf(other, 1)
	case 5:
		p.Items = append(p.Items, bytesOf(other))
	case 6:
		p.Items = append(p.Items, sepOf(other, random.Intn(3)))
	case 7:
		if len(p.Items) > 1 {
			a, b := random.Intn(len(p.Items)), random.Intn(len(p.Items))
			p.Items[a], p.Items[b] = p.Items[b], p.Items[a]
		}
	}
	return p
}

func TestAgainstTheModel(t *testing.T) {
	random := rand.New(rand.NewSource(14))
	nodes, others := 0, 0
	for range 20000 {
		p := someNode(random, 1+random.Intn(30))
		if m := modelOf(p); !m.leaf && !m.inner {
			t.Fatalf("no node: %+v", p)
		}
		if random.Intn(2) == 0 {
			p = spoilt(random, p)
		}
		if m := modelOf(p); m.leaf || m.inner {
			nodes++
		} else {
			others++
		}
		asked(t, p, someEntry(random), []int{-1, 0, 1, 5, 65535, 65536}[random.Intn(6)])
		if t.Failed() {
			return
		}
	}
	if nodes < 8000 || others < 5000 {
		t.Errorf("only %d nodes, and %d other pages", nodes, others)
	}
}

// What is inserted is there, and nothing else changes; Remove takes it out again.
func TestInsertAndRemove(t *testing.T) {
	random := rand.New(rand.NewSource(7))
	inserted := 0
	for range 20000 {
		p, e := someNode(random, 12), someEntry(random)
		q, err := node.Insert(p, e)
		if err != api.OK {
			continue
		}
		inserted++
		takes(t, q)
		list, _ := node.Entries(q)
		before, _ := node.Entries(p)
		if !slices.Contains(list, e) || len(list) != len(before)+1 {
			t.Fatalf("%v into %v: %v", e, before, list)
		}
		for _, x := range before {
			if !slices.Contains(list, x) {
				t.Fatalf("%v into %v: %v is gone", e, before, x)
			}
		}
		back, err := node.Remove(q, e)
		isPage(t, "Remove", back, err, p)
	}
	if inserted < 5000 {
		t.Errorf("only %d were inserted", inserted)
	}
}

// Each entry of a leaf is in one of its halves, and an entry is led by the halves of an inner node where it was led.
func TestHalves(t *testing.T) {
	random := rand.New(rand.NewSource(5))
	leaves, inners := 0, 0
	for range 10000 {
		p := someNode(random, 20)
		left, rest, border, err := node.Split(p, 7)
		if err != api.OK {
			continue
		}
		if page.Size(p) <= 512 {
			takes(t, left)
			takes(t, rest)
		}
		if left.High != bytesOf(border) || left.Right != 7 || rest.Right != p.Right || rest.High != p.High {
			t.Fatalf("%+v and %+v, %v", left, rest, border)
		}
		if p.Level > 0 {
			inners++
			ledAsBefore(t, random, p, left, rest)
			continue
		}
		leaves++
		a, _ := node.Entries(left)
		b, _ := node.Entries(rest)
		whole, _ := node.Entries(p)
		if !slices.Equal(slices.Concat(a, b), whole) {
			t.Fatalf("%v and %v of %v", a, b, whole)
		}
		for _, e := range whole {
			beyondIs(t, left, e, slices.Contains(b, e))
		}
	}
	if leaves < 2000 || inners < 2000 {
		t.Errorf("only %d leaves and %d inner nodes", leaves, inners)
	}
}

func ledAsBefore(t *testing.T, random *rand.Rand, p, left, rest api.Page) {
	t.Helper()
	seps, _, _ := node.Kids(p)
	for _, e := range append(seps[1:], someEntry(random), someEntry(random), entry("\x00", 0, 0)) {
		want, err := node.Child(p, e)
		if err != api.OK {
			continue
		}
		half := left
		if beyond, _ := node.Beyond(left, e); beyond {
			half = rest
		}
		childIs(t, half, e, want)
	}
}

// A full leaf's halves have room for any entry, whatever the lengths of its items are.
func TestHalvesHaveRoom(t *testing.T) {
	random := rand.New(rand.NewSource(3))
	for range 2000 {
		p := leafOf()
		long := random.Intn(25)
		for i := 0; ; i++ {
			size := 2 + random.Intn(2)
			if i < long {
				size = 24
			}
			q, err := node.Insert(p, entry(strings.Repeat(string(rune('A'+i)), size), 1, 65535*random.Intn(2)))
			if err == api.ErrLong {
				break
			}
			if err != api.OK {
				t.Fatal(err)
			}
			p = q
		}
		left, rest, _, err := node.Split(p, 7)
		if err != api.OK || page.Room(left) < 31 || page.Room(rest) < 31 {
			t.Fatalf("%v: %d and %d bytes of room", err, page.Room(left), page.Room(rest))
		}
	}
}

// R2

func TestNothingIsWrittenInto(t *testing.T) {
	var all []api.Entry
	for i := range 8 {
		all = append(all, entry("k", i, i))
	}
	for _, p := range []api.Page{leafOf(all...), innerOf(all...)} {
		before := slices.Clone(p.Items)
		for n := range p.Items {
			q := p
			q.Items = p.Items[:n]
			spoil(q)
			if !slices.Equal(p.Items, before) {
				t.Fatalf("items are %q, were %q", p.Items, before)
			}
		}
	}
}

// spoil writes into all that is answered of a page, and behind it.
func spoil(p api.Page) {
	var pages []api.Page
	list, _ := node.Entries(p)
	seps, kids, _ := node.Kids(p)
	for i := range list {
		list[i] = longest
	}
	for i := range seps {
		seps[i] = longest
		kids[i] = -1
	}
	for _, e := range []api.Entry{entry("a", 1, 0), entry("k", 0, 0), entry("k", 2, 3), entry("z", 1, 0)} {
		a, _ := node.Insert(p, e)
		b, _ := node.Remove(p, e)
		c, _ := node.Post(p, e, 5)
		pages = append(pages, a, b, c)
	}
	left, rest, _, _ := node.Split(p, 7)
	for _, q := range append(pages, left, rest) {
		for i := range q.Items {
			q.Items[i] = "changed"
		}
		_ = append(q.Items, "behind")
	}
}

func TestHalvesAreApart(t *testing.T) {
	for _, p := range []api.Page{leafOf(entry("a", 1, 0), entry("b", 1, 0)), innerOf(entry("a", 1, 0), entry("b", 1, 0))} {
		left, rest, _, _ := node.Split(p, 7)
		want := slices.Clone(rest.Items)
		_ = append(left.Items, "behind", "behind too")
		left.Items[0] = "changed"
		if !slices.Equal(rest.Items, want) {
			t.Errorf("%q, was %q", rest.Items, want)
		}
		again, _, _, _ := node.Split(p, 7)
		if again.Items[0] == "changed" {
			t.Error("a half is not the caller's own")
		}
	}
}

// R3

func TestAnswersDoNotHangOnEarlierCalls(t *testing.T) {
	b := node.Leaf()
	b.Items = append(b.Items, "x")
	if again := node.Leaf(); len(again.Items) != 0 {
		t.Errorf("Leaf has %q", again.Items)
	}
	p, q := leafOf(entry("a", 1, 0), entry("b", 1, 0)), innerOf(entry("a", 1, 0), entry("b", 1, 0))
	ask := func() string {
		a, aErr := node.Insert(p, entry("c", 1, 0))
		c, cErr := node.Child(q, entry("b", 1, 1))
		l, r, e, err := node.Split(q, 7)
		return fmt.Sprint(a, aErr, c, cErr, l, r, e, err, node.Check(p), node.Check(q))
	}
	first := ask()
	for _, e := range wrongEntries() {
		node.Insert(p, e)
		node.Post(q, e, 5)
		node.Root(1, 5, e, 7)
		node.Sep(e, 0)
	}
	if again := ask(); again != first {
		t.Errorf("%q, then %q", first, again)
	}
}
