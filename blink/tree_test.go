package blink_test

import (
	"math/rand"
	"slices"
	"strings"
	"testing"

	"almonry/api"
	"almonry/blink"
	"almonry/node"
)

// owed is what has to come into a level, and has not yet.
type owed struct {
	level int
	e     api.Entry
	child int
}

// tree is nodes on pages that nothing but records change, and what was entered into it.
type tree struct {
	t      *testing.T
	pages  map[int]api.Page
	next   int // the next new page
	lsn    int
	all    []api.Entry // in order
	owes   []owed
	splits int // of nodes that are not the root
	inner  int // how many of them were none of leaves
	roots  int // of the root
}

func newTree(t *testing.T) *tree {
	return &tree{t: t, pages: map[int]api.Page{1: node.Leaf()}, next: 2}
}

// down is the node of a level to which Way leads, from the root on.
func (x *tree) down(level int, e api.Entry) int {
	x.t.Helper()
	page := 1
	for range 4 * len(x.pages) {
		next, there, err := blink.Way(x.pages[page], level, e)
		if err != api.OK {
			x.t.Fatalf("on page %d, for %v, level %d: %v", page, e, level, err)
		}
		if there {
			return page
		}
		page = next
	}
	x.t.Fatalf("no way to %v", e)
	return 0
}

// enter lays an item into a level, where its entry belongs.
func (x *tree) enter(level int, e api.Entry, item string) {
	x.t.Helper()
	page := x.down(level, e)
	p := x.pages[page]
	need, err := blink.Need(p, page, item)
	if err != api.OK {
		x.t.Fatalf("Need(%+v, %d, %v): %v", p, page, e, err)
	}
	var fresh []int
	for range need {
		fresh = append(fresh, x.next)
		x.next++
	}
	r, err := blink.Enter(p, page, item, fresh...)
	if err != api.OK {
		x.t.Fatalf("Enter(%+v, %d, %v, %v): %v", p, page, e, fresh, err)
	}
	if need > 0 {
		x.joins(p, r, e, item)
	}
	x.apply(r)
	up, child, ok := blink.Above(r)
	if ok != (need == 1) {
		x.t.Fatalf("Above, of %d pages: %v", need, ok)
	}
	if ok {
		x.owes = append(x.owes, owed{level + 1, up, child})
		x.splits++
		x.inner += min(1, level)
	}
	x.roots += need / 2
}

// apply does what a record says, as chapter 16 has it.
func (x *tree) apply(r api.Record) {
	x.t.Helper()
	x.lsn++
	for _, image := range r.Images {
		x.store(image.Page, image.Body)
	}
	if len(r.Images) > 0 {
		return
	}
	p := x.pages[r.Page]
	var err api.Errno
	if p.Level == 0 {
		e, _ := node.Decode(r.Data)
		if r.Kind == api.EntryOut {
			p, err = node.Remove(p, e)
		} else {
			p, err = node.Insert(p, e)
		}
	} else {
		e, child, _ := node.Unsep(r.Data)
		p, err = node.Post(p, e, child)
	}
	if err != api.OK {
		x.t.Fatalf("%+v can't be applied: %v", r, err)
	}
	x.store(r.Page, p)
}

func (x *tree) store(page int, p api.Page) {
	x.t.Helper()
	p.LSN = x.lsn
	if err := node.Check(p); err != api.OK {
		x.t.Fatalf("page %d is no node: %+v", page, p)
	}
	x.pages[page] = p
}

// joins holds both halves of a node, joined at their border, against the node and what came in.
func (x *tree) joins(p api.Page, r api.Record, e api.Entry, item string) {
	x.t.Helper()
	left, rest := r.Images[0].Body, r.Images[1].Body
	for _, image := range r.Images {
		if image.Body.LSN != 0 {
			x.t.Fatalf("an image of the LSN %d", image.Body.LSN)
		}
	}
	items := slices.Concat(left.Items, rest.Items)
	if p.Level > 0 {
		// The right half's first separator is the border, which has gone up.
		border, _ := node.Decode(left.High)
		_, child, _ := node.Unsep(rest.Items[0])
		items[len(left.Items)] = sepOf(border, child)
	}
	at := slices.Index(items, item)
	if at < 0 || !slices.Equal(slices.Delete(items, at, at+1), p.Items) {
		x.t.Fatalf("%+v and %v, split: %+v and %+v", p, e, left, rest)
	}
	if p.Level > 0 {
		return
	}
	for half, list := range [][]string{left.Items, rest.Items} {
		for _, item := range list {
			e, _ := node.Decode(item)
			if beyond, err := node.Beyond(left, e); err != api.OK || beyond != (half == 1) {
				x.t.Fatalf("%v, of half %d: %v %v", e, half, beyond, err)
			}
		}
	}
}

// put enters a new entry, or finds that it is there.
func (x *tree) put(e api.Entry) {
	x.t.Helper()
	at, there := slices.BinarySearchFunc(x.all, e, node.Compare)
	if there {
		page := x.down(0, e)
		if _, err := blink.Enter(x.pages[page], page, itemOf(e)); err != api.ErrEntry {
			x.t.Fatalf("%v once more: %v", e, err)
		}
		return
	}
	x.enter(0, e, itemOf(e))
	x.all = slices.Insert(x.all, at, e)
}

// pay enters one of those that are owed.
func (x *tree) pay(i int) {
	x.t.Helper()
	o := x.owes[i]
	x.owes = slices.Delete(x.owes, i, i+1)
	x.enter(o.level, o.e, sepOf(o.e, o.child))
}

// leaf is one of the tree's: its page, and what bounds it (the least: nothing).
type leaf struct {
	page int
	high api.Entry
}

// leaves are all of them, by their neighbours, from the first one on; Way has no part in it.
func (x *tree) leaves() []leaf {
	page := 1
	for x.pages[page].Level > 0 {
		_, kids, _ := node.Kids(x.pages[page])
		page = kids[0]
	}
	var list []leaf
	for page != 0 {
		high, _ := node.Decode(x.pages[page].High)
		list = append(list, leaf{page, high})
		page = x.pages[page].Right
	}
	return list
}

// led holds the leaf to which an entry is led against the one to which it belongs.
func (x *tree) led(leaves []leaf, e api.Entry) {
	x.t.Helper()
	at := slices.IndexFunc(leaves, func(l leaf) bool { return l.high == least || node.Compare(e, l.high) <= 0 })
	if at < 0 {
		x.t.Fatalf("%v belongs to no leaf", e)
	}
	page := leaves[at].page
	if got := x.down(0, e); got != page {
		x.t.Fatalf("%v: led to page %d, belongs to %d", e, got, page)
	}
	_, there := slices.BinarySearchFunc(x.all, e, node.Compare)
	if entries, _ := node.Entries(x.pages[page]); slices.Contains(entries, e) != there {
		x.t.Fatalf("%v on page %d: not %v", e, page, there)
	}
}

// holds looks at the whole tree: all entries are there, in order, and each one is led to its leaf.
func (x *tree) holds() {
	x.t.Helper()
	leaves := x.leaves()
	var got []api.Entry
	for _, l := range leaves {
		entries, err := node.Entries(x.pages[l.page])
		if err != api.OK {
			x.t.Fatal(err)
		}
		got = append(got, entries...)
	}
	if !slices.Equal(got, x.all) {
		x.t.Fatalf("%v, want %v", got, x.all)
	}
	for _, e := range x.all {
		x.led(leaves, e)
		e.Key = (e.Key + "\x00")[:min(24, len(e.Key)+1)]
		x.led(leaves, e)
	}
}

// scan is all entries from a key on, below another one, leaf by leaf as Hits says.
func (x *tree) scan(from, to string) []api.Entry {
	x.t.Helper()
	start := entry(from, 0, 0)
	if from == "" {
		start.Key = "\x00"
	}
	page := x.down(0, start)
	var list []api.Entry
	for {
		entries, more, err := blink.Hits(x.pages[page], from, to)
		if err != api.OK {
			x.t.Fatal(err)
		}
		list = append(list, entries...)
		if !more {
			return list
		}
		page = x.pages[page].Right
	}
}

func (x *tree) scans(from, to string) {
	x.t.Helper()
	var want []api.Entry
	for _, e := range x.all {
		if e.Key >= from && (to == "" || e.Key < to) {
			want = append(want, e)
		}
	}
	if got := x.scan(from, to); !slices.Equal(got, want) {
		x.t.Fatalf("from %q below %q: %v, want %v", from, to, got, want)
	}
}

// keyOf is a random key; many are long, so that few fit into a node, and some are met again.
func keyOf(random *rand.Rand) string {
	size := 1 + random.Intn(24)
	if random.Intn(4) > 0 {
		size = 20 + random.Intn(5)
	}
	start := string([]byte{byte(random.Intn(256)), byte(random.Intn(256))})
	return (start + strings.Repeat("x", 24))[:size]
}

func entryOf(random *rand.Rand) api.Entry {
	numbers := []int{0, 1, 127, 128, 16384, 65535}
	return entry(keyOf(random), numbers[random.Intn(len(numbers))], numbers[random.Intn(len(numbers))])
}

// grow enters random entries, and pays what is owed, in any order, as often as says; 0: never, 100: always at once.
func grow(t *testing.T, random *rand.Rand, steps, often int) *tree {
	t.Helper()
	x := newTree(t)
	for step := range steps {
		x.put(entryOf(random))
		for len(x.owes) > 0 && random.Intn(100) < often {
			x.pay(random.Intn(len(x.owes)))
		}
		leaves := x.leaves()
		for range 3 {
			x.led(leaves, entryOf(random))
		}
		if step%200 == 0 {
			x.holds()
		}
	}
	x.holds()
	return x
}

// P15.7, and P15.6 over many leaves

func TestTreesThatGrow(t *testing.T) {
	for seed, c := range []struct{ steps, often int }{{900, 100}, {900, 50}, {900, 20}, {300, 5}, {300, 1}, {150, 0}} {
		random := rand.New(rand.NewSource(int64(seed)))
		x := grow(t, random, c.steps, c.often)
		for len(x.owes) > 0 {
			x.pay(random.Intn(len(x.owes)))
			x.led(x.leaves(), entryOf(random))
		}
		x.holds()
		if x.splits < 8 || x.roots < 1 || c.steps == 900 && (x.inner < 3 || x.roots < 2) {
			t.Errorf("paid %d of 100: %d splits, %d of inner nodes, %d of the root", c.often, x.splits, x.inner, x.roots)
		}
	}
}

// What is owed is paid the last first: each node's left neighbours are owed yet.
func TestTreesThatPayBackwards(t *testing.T) {
	for _, pile := range []int{1, 7, 30} {
		random := rand.New(rand.NewSource(int64(pile)))
		x := newTree(t)
		for range 700 {
			x.put(entryOf(random))
			if len(x.owes) < pile {
				continue
			}
			for len(x.owes) > 0 {
				x.pay(len(x.owes) - 1)
				x.led(x.leaves(), entryOf(random))
			}
		}
		x.holds()
	}
}

// Keys that come rising, or falling, or all versions of one key.
func TestTreesOfKeysInOrder(t *testing.T) {
	for _, next := range []func(n int) api.Entry{
		func(n int) api.Entry { return nth(n) },
		func(n int) api.Entry { return nth(999 - n) },
		func(n int) api.Entry { return entry(longKey, n, 0) },
		func(n int) api.Entry { return entry(longKey, 0, 65535-n) },
	} {
		x := newTree(t)
		for n := range 500 {
			x.put(next(n))
			for len(x.owes) > 0 {
				x.pay(0)
			}
		}
		x.holds()
		if x.roots < 1 || x.splits < 10 {
			t.Errorf("%d splits, %d of the root", x.splits, x.roots)
		}
		x.scans("", "")
		x.scans(longKey, longKey+"\x00")
		x.scans("k300", "k401")
	}
}

func TestHitsOverManyLeaves(t *testing.T) {
	for seed, often := range []int{100, 10, 0} {
		random := rand.New(rand.NewSource(int64(100 + seed)))
		x := grow(t, random, 200, often)
		x.scans("", "")
		for range 60 {
			from, to := keyOf(random), keyOf(random)
			x.scans(from, to)
			x.scans(from, "")
			x.scans("", to)
			e := x.all[random.Intn(len(x.all))]
			x.scans(e.Key, e.Key+"\x00")
			x.scans(e.Key, x.all[random.Intn(len(x.all))].Key)
		}
		for _, l := range x.leaves() {
			x.scans(l.high.Key, l.high.Key+"\x00")
			x.scans("", l.high.Key)
		}
	}
}

// What left is gone, and nothing else is; its leaf stays where it is.
func TestLeaveTheTree(t *testing.T) {
	random := rand.New(rand.NewSource(9))
	x := grow(t, random, 400, 30)
	for len(x.all) > 0 {
		at := random.Intn(len(x.all))
		e := x.all[at]
		page := x.down(0, e)
		r, err := blink.Leave(x.pages[page], page, e)
		if err != api.OK || r.Page != page {
			t.Fatalf("Leave(%+v, %d, %v): %+v %v", x.pages[page], page, e, r, err)
		}
		x.apply(r)
		x.all = slices.Delete(x.all, at, at+1)
		if _, err := blink.Leave(x.pages[page], page, e); err != api.ErrEntry {
			t.Fatalf("%v once more: %v", e, err)
		}
		if len(x.all)%100 == 0 {
			x.holds()
		}
	}
}
