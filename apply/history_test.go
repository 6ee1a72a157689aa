package apply_test

import (
	"fmt"
	"maps"
	"math/rand"
	"slices"
	"testing"

	"almonry/api"
	"almonry/apply"
	"almonry/blink"
	"almonry/clog"
	"almonry/heap"
	"almonry/node"
	"almonry/page"
	"almonry/rec"
	"almonry/tuple"
)

// Logs of heap pages, of a tree and of statuses, which are done again (P16.4, and P12.7).

// history is a log, and the pages as they were behind each of its records.
type history struct {
	drawn
	t     *testing.T
	log   []api.Record
	pages []map[int]api.Page
	open  map[int][]api.Record // of each transaction, what may be undone, the latest one last
	fresh int
}

const historyHeaps = 6 // pages 2 to 7

func newHistory(t *testing.T, seed int64) *history {
	first := map[int]api.Page{0: sure(clog.Blank(16, 1)), 1: node.Leaf()}
	for n := range historyHeaps {
		first[2+n] = heap.Blank()
	}
	return &history{
		drawn: drawn{rand.New(rand.NewSource(seed))}, t: t,
		pages: []map[int]api.Page{first}, open: map[int][]api.Record{}, fresh: 2 + historyHeaps,
	}
}

// now is the pages as they are.
func (h *history) now() map[int]api.Page { return h.pages[len(h.pages)-1] }

// add logs a record; sometimes with images of what it touches.
func (h *history) add(r api.Record) api.Record {
	h.t.Helper()
	r.LSN = 10 * (len(h.log) + 1)
	next := maps.Clone(h.now())
	whole := len(r.Images) == 0 && (len(h.log) == 0 || h.one(6))
	for _, n := range apply.Touches(r) {
		body, err := do(h.t, 16, next[n], n, r)
		if err != api.OK {
			h.t.Fatalf("Do(%+v, %d, %+v): %v", next[n], n, r, err)
		}
		h.stays(next[n], body, n, r)
		next[n] = body
		if whole {
			r.Images = append(r.Images, api.Image{Page: n, Body: later(body, h.Intn(100))})
		}
	}
	if err := rec.Check(r); err != api.OK {
		h.t.Fatalf("%+v can't be logged: %v", r, err)
	}
	h.log, h.pages = append(h.log, r), append(h.pages, next)
	return r
}

// stays asks that a record changes nothing but what it touches, and nothing when it is done again.
func (h *history) stays(was, is api.Page, n int, r api.Record) {
	h.t.Helper()
	if again, err := apply.Do(16, is, n, r); err != api.OK || !page.Same(again, is) {
		h.t.Fatalf("done again: %+v %v, was %+v", again, err, is)
	}
	for other, body := range h.now() {
		if slices.Contains(apply.Touches(r), other) {
			continue
		}
		if got, err := apply.Do(16, body, other, r); err != api.OK || !page.Same(got, body) {
			h.t.Fatalf("page %d, which is not touched by %+v: %+v %v", other, r, got, err)
		}
	}
	back, err := apply.Back(r)
	if err != api.OK {
		return
	}
	back.LSN = r.LSN + 1
	want := later(was, back.LSN)
	if r.Kind == api.Insert {
		want = in(later(is, back.LSN), r.Slot, deadOf(sure(tuple.Decode(r.Data)).Key))
	}
	if got, err := apply.Do(16, is, n, back); err != api.OK || !page.Same(got, want) {
		h.t.Fatalf("%+v undone: %+v %v, want %+v", r, got, err, want)
	}
}

func (h *history) heapNumber() int { return 2 + h.Intn(historyHeaps) }

func (h *history) insert(x int) {
	n := h.heapNumber()
	v := api.Tuple{Xmin: x, Key: fmt.Sprintf("%020d", h.Intn(30)), Value: h.text("", "x", "longer than that")}
	r, err := heap.Insert(h.now()[n], n, v)
	if err != api.OK {
		return
	}
	r = h.add(r)
	h.open[x] = append(h.open[x], r)
	if got, ok := heap.Look(h.now()[n], r.Slot, v.Key); !ok || got != v {
		h.t.Fatalf("%+v is laid: %+v %v", v, got, ok)
	}
	h.enter(0, itemOf(entry(v.Key, n, r.Slot)))
}

// enter lays an item into the tree, at a level, and what that has to tell above.
func (h *history) enter(level int, item string) {
	e, err := node.Decode(item)
	if level > 0 {
		e, _, err = node.Unsep(item)
	}
	sure(e, err)
	on := h.find(level, e)
	need, err := blink.Need(h.now()[on], on, item)
	if err == api.ErrEntry {
		return
	}
	fresh := []int{h.fresh, h.fresh + 1}[:sure(need, err)]
	h.fresh += need
	r := sure(blink.Enter(h.now()[on], on, item, fresh...))
	h.add(r)
	if border, child, ok := blink.Above(r); ok {
		h.enter(level+1, sepOf(border, child))
	}
}

func (h *history) find(level int, e api.Entry) int {
	on := 1
	for {
		next, there, err := blink.Way(h.now()[on], level, e)
		if err != api.OK {
			h.t.Fatalf("no way to %v from %d: %v", e, on, err)
		}
		if there {
			return on
		}
		on = next
	}
}

func (h *history) mark(x int) {
	n := h.heapNumber()
	p := h.now()[n]
	if len(p.Items) == 0 {
		return
	}
	slot := h.Intn(len(p.Items))
	// Nobody ends what another one, who is open, has made, or what is ended: who is rolled back finds what he left then.
	v, err := tuple.Decode(p.Items[slot])
	if err != api.OK || v.Xmax != 0 || v.Xmin != x && len(h.open[v.Xmin]) > 0 {
		return
	}
	if r, err := heap.Mark(p, n, slot, x); err == api.OK {
		h.open[x] = append(h.open[x], h.add(r))
	}
}

// end commits, or rolls back.
func (h *history) end(x int) {
	if h.one(2) {
		h.add(api.Record{Kind: api.Commited, Xid: x})
		delete(h.open, x)
		return
	}
	for _, r := range slices.Backward(h.open[x]) {
		h.add(sure(apply.Back(r)))
	}
	h.add(api.Record{Kind: api.RolledBack, Xid: x})
	delete(h.open, x)
}

// sweep freezes and cleans, when nobody is open: versions that are ended go, whoever has ended them.
func (h *history) sweep() {
	for x := 1; x <= 16; x++ {
		if len(h.open[x]) > 0 {
			h.end(x)
		}
	}
	n := h.heapNumber()
	var cold, endless, gone []int
	for slot, item := range h.now()[n].Items {
		switch {
		case tuple.State(item) == api.Dead:
			gone = append(gone, slot)
		case tuple.State(item) == api.Live && h.one(3):
			cold = append(cold, slot)
		case tuple.State(item) == api.Live && h.one(3):
			endless = append(endless, slot)
		case tuple.State(item) == api.Live && h.one(3):
			gone = append(gone, slot)
		}
	}
	h.add(api.Record{Kind: api.Freeze, Page: n, Slots: cold, More: endless})
	for _, slot := range gone {
		key, _ := tuple.Key(h.now()[n].Items[slot])
		e := entry(key, n, slot)
		on := h.find(0, e)
		if r, err := blink.Leave(h.now()[on], on, e); err == api.OK {
			h.add(r)
		}
	}
	h.add(api.Record{Kind: api.Clean, Page: n, Slots: gone})
	h.add(api.Record{Kind: api.Cut, New: 1 + h.Intn(16)})
}

func (h *history) step() {
	x := 1 + h.Intn(16)
	switch h.Intn(20) {
	case 0:
		h.sweep()
	case 1, 2:
		h.end(x)
	case 3, 4, 5, 6, 7, 8:
		h.mark(x)
	case 9:
		h.add(api.Record{Kind: api.Check, Page: 2, New: 3, Data: "x"})
	default:
		h.insert(x)
	}
}

// again does records again to pages, as they come.
func again(t *testing.T, pages map[int]api.Page, log []api.Record) {
	t.Helper()
	for _, r := range log {
		for _, n := range apply.Touches(r) {
			body, err := apply.Do(16, pages[n], n, r)
			if err != api.OK {
				t.Fatalf("again: Do(%+v, %d, %+v): %v", pages[n], n, r, err)
			}
			pages[n] = body
		}
	}
}

func samePages(t *testing.T, what string, got, want map[int]api.Page) {
	t.Helper()
	for n := range want {
		if !page.Same(got[n], want[n]) {
			t.Fatalf("%s: page %d is %+v, was %+v", what, n, got[n], want[n])
		}
	}
}

// Each page is found as it was at any time: what is in it already is not done again.
func (h *history) redoFromAnyTime() {
	found := map[int]api.Page{}
	for n := range h.now() {
		found[n] = h.pages[h.Intn(len(h.pages))][n]
	}
	again(h.t, found, h.log)
	samePages(h.t, "from any time", found, h.now())
	again(h.t, found, h.log)
	samePages(h.t, "twice", found, h.now())
}

// Of each page nothing is taken but what follows an image of it: whatever it was ahead of that.
func (h *history) redoFromImages() {
	odd := append(bodies(), later(heapPage("x"), 1<<40))
	for n, want := range h.now() {
		for i, r := range h.log {
			if !slices.ContainsFunc(r.Images, func(image api.Image) bool { return image.Page == n }) {
				continue
			}
			p := odd[h.Intn(len(odd))]
			for j, r := range h.log[i:] {
				body, err := apply.Do(16, p, n, r)
				if was := h.pages[i+j+1][n]; err != api.OK || !page.Same(body, was) {
					h.t.Fatalf("page %d behind %d from an image at %d on: %+v %v, was %+v", n, r.LSN, h.log[i].LSN, body, err, was)
				}
				p = body
			}
			if !page.Same(p, want) {
				h.t.Fatalf("page %d: %+v, want %+v", n, p, want)
			}
		}
	}
}

func TestHistories(t *testing.T) {
	kinds := map[api.Kind]int{}
	for seed := range int64(20) {
		h := newHistory(t, seed)
		for range 150 {
			h.step()
		}
		for _, r := range h.log {
			kinds[r.Kind]++
		}
		h.redoFromImages()
		for range 20 {
			h.redoFromAnyTime()
		}
	}
	for _, kind := range append([]api.Kind{api.Split}, touching...) {
		if kinds[kind] < 10 {
			t.Errorf("kind %d was logged %d times", kind, kinds[kind])
		}
	}
}
