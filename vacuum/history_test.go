package vacuum_test

import (
	"maps"
	"math/rand"
	"slices"
	"testing"

	"almonry/api"
	"almonry/apply"
	"almonry/clog"
	"almonry/heap"
	"almonry/snap"
	"almonry/tuple"
	"almonry/vacuum"
	"almonry/xid"
)

// The second half of P20.3: transactions on pages of versions, which are vacuumed page by page while the ids go round.

// client is an open transaction: what its view is made of, its records, and what it must read.
type client struct {
	snapshot api.Snapshot
	own      int
	log      []api.Record
	reads    map[string]string
	wrote    map[string]string
}

// place is where a version stands.
type place struct{ page, slot int }

// history is pages, beside a model of what each transaction reads.
type history struct {
	*rand.Rand
	t         *testing.T
	modulus   int
	counter   *xid.Counter
	clog      api.Page
	pages     map[int]api.Page
	committed map[string]string
	open      []*client
	horizon   int // of the vacuum that is under way
	next      int // the page that it comes to next, 0: none is under way
	frozen    int // how many versions have been
	off       int
	gone      int
	taken     int
}

func newHistory(t *testing.T, modulus int, seed int64) *history {
	return &history{
		Rand: rand.New(rand.NewSource(seed)), t: t, modulus: modulus, counter: sure(xid.New(modulus, 1, 1)),
		clog: sure(clog.Blank(modulus, 1)), pages: map[int]api.Page{2: heap.Blank(), 3: heap.Blank()},
		committed: map[string]string{},
	}
}

func (h *history) running() []int {
	var list []int
	for _, c := range h.open {
		if c.own != 0 {
			list = append(list, c.own)
		}
	}
	return list
}

// view is a transaction's; of nil it is the vacuum's, whose snapshot is nobody's.
func (h *history) view(c *client) api.View {
	v := api.View{Modulus: h.modulus, Running: h.running(), Clog: h.clog}
	if c != nil {
		v.Snapshot, v.Own = c.snapshot, c.own
	}
	return v
}

func (h *history) do(page int, r api.Record) {
	h.t.Helper()
	r.LSN = h.pages[page].LSN + 1
	body, err := apply.Do(h.modulus, h.pages[page], page, r)
	if err != api.OK {
		h.t.Fatalf("%+v can't be done: %v", r, err)
	}
	h.pages[page] = body
}

// live is all versions and where they stand.
func (h *history) live() map[place]api.Tuple {
	all := map[place]api.Tuple{}
	for n, p := range h.pages {
		for slot, item := range p.Items {
			if v, err := tuple.Decode(item); err == api.OK {
				all[place{n, slot}] = v
			}
		}
	}
	return all
}

// seen is where the versions stand that each open transaction sees.
func (h *history) seen() []map[place]string {
	var list []map[place]string
	for _, c := range h.open {
		one := map[place]string{}
		for where, v := range h.live() {
			if snap.Visible(h.view(c), v) {
				one[where] = v.Key + "=" + v.Value
			}
		}
		list = append(list, one)
	}
	return list
}

func (h *history) begin() {
	h.open = append(h.open, &client{
		snapshot: snap.Take(h.counter.Next(), h.running()...), reads: maps.Clone(h.committed), wrote: map[string]string{},
	})
}

// end is a commit or an abort; of an abort it is not always undone what was done, as if it were yet to be.
func (h *history) end(i int, s api.Status) {
	c := h.open[i]
	h.open = slices.Delete(h.open, i, i+1)
	if c.own == 0 {
		return
	}
	if s == api.Aborted && h.Intn(2) == 0 {
		h.undo(c)
	}
	h.clog = sure(clog.Set(h.modulus, h.clog, c.own, s))
	if s == api.Aborted {
		return
	}
	for key, value := range c.wrote {
		if value == "" {
			delete(h.committed, key)
		} else {
			h.committed[key] = value
		}
	}
}

func (h *history) undo(c *client) {
	for _, r := range slices.Backward(c.log) {
		back := sure(apply.Back(r))
		back.New = 0
		h.do(r.Page, back)
	}
}

// held tells whether another open transaction has changed a key.
func (h *history) held(c *client, key string) bool {
	return slices.ContainsFunc(h.open, func(other *client) bool {
		_, ok := other.wrote[key]
		return ok && other != c
	})
}

func (h *history) log(c *client, r api.Record) {
	h.do(r.Page, r)
	c.log = append(c.log, r)
}

// write gives a key another value, or none, if the value is empty; what it can't do it leaves, or it rolls back.
func (h *history) write(i int, key, value string) {
	c := h.open[i]
	into := 2 + h.Intn(len(h.pages))
	if h.held(c, key) || c.own == 0 && h.counter.Left() == 0 || heap.Room(h.pages[into]) < 20 {
		return
	}
	v := h.view(c)
	for _, version := range h.live() {
		if version.Key == key && snap.Newer(v, version) {
			h.end(i, api.Aborted)
			return
		}
	}
	if c.own == 0 {
		c.own = sure(h.counter.Take())
		h.taken++
	}
	for where, version := range h.live() {
		if version.Key == key && snap.Visible(v, version) {
			h.log(c, sure(heap.Mark(h.pages[where.page], where.page, where.slot, c.own)))
		}
	}
	c.wrote[key] = value
	delete(c.reads, key)
	if value != "" {
		c.reads[key] = value
		h.log(c, sure(heap.Insert(h.pages[into], into, api.Tuple{Xmin: c.own, Key: key, Value: value})))
	}
}

// sweep is one page of a vacuum, or its end.
func (h *history) sweep() {
	if h.next == 0 {
		var snaps []api.Snapshot
		for _, c := range h.open {
			snaps = append(snaps, c.snapshot)
		}
		h.horizon, h.next = snap.Horizon(h.modulus, h.counter.Next(), h.running(), snaps...), 2
		return
	}
	if _, there := h.pages[h.next]; !there {
		h.cut()
		return
	}
	h.sweepPage(h.next)
	h.next++
}

func (h *history) sweepPage(n int) {
	before := h.seen()
	found := vacuum.Sort(h.view(nil), h.horizon, n, h.pages[n])
	h.nobodySees(before, found.Gone)
	if r, ok := vacuum.Freeze(n, found); ok {
		h.do(n, r)
	}
	h.isSeenAsBefore(before, "Freeze")
	if r, ok := vacuum.Clean(n, found); ok {
		h.do(n, r)
	}
	h.isSeenAsBefore(before, "Clean")
	if again := vacuum.Sort(h.view(nil), h.horizon, n, h.pages[n]); !sameWork(again, api.Work{}) {
		h.t.Fatalf("behind it Sort finds %+v", again)
	}
	h.frozen, h.off, h.gone = h.frozen+len(found.Freeze), h.off+len(found.Off), h.gone+len(found.Gone)
}

func (h *history) cut() {
	h.next = 0
	h.clog = sure(clog.Cut(h.modulus, h.clog, h.horizon))
	if err := h.counter.Freeze(h.horizon); err != api.OK {
		h.t.Fatal(err)
	}
}

func (h *history) nobodySees(seen []map[place]string, gone []api.Entry) {
	for _, e := range gone {
		if key, _ := tuple.Key(h.pages[e.Page].Items[e.Slot]); key != e.Key {
			h.t.Fatalf("%+v is not where it stands", e)
		}
		for i, one := range seen {
			if what, ok := one[place{e.Page, e.Slot}]; ok {
				h.t.Fatalf("%+v is Gone, and %+v sees %s there", e, h.view(h.open[i]), what)
			}
		}
	}
}

func (h *history) isSeenAsBefore(before []map[place]string, behind string) {
	for i, now := range h.seen() {
		if !maps.Equal(now, before[i]) {
			h.t.Fatalf("behind %s %+v sees %v, ahead of it %v", behind, h.view(h.open[i]), now, before[i])
		}
	}
}

// reads holds what each open transaction sees against what it must read.
func (h *history) reads() {
	for i, one := range h.seen() {
		want := map[string]int{}
		for key, value := range h.open[i].reads {
			want[key+"="+value] = 1
		}
		got := map[string]int{}
		for _, what := range one {
			got[what]++
		}
		if !maps.Equal(got, want) {
			h.t.Fatalf("%+v reads %v, not %v", h.view(h.open[i]), got, want)
		}
	}
}

func (h *history) step(n int) {
	what := h.Intn(12)
	if len(h.open) == 0 || len(h.open) < 5 && what == 0 {
		h.begin()
		return
	}
	i := h.Intn(len(h.open))
	switch what {
	case 1:
		h.end(i, api.Committed)
	case 2:
		h.end(i, api.Aborted)
	case 3, 4, 5:
		h.sweep()
	default:
		key, value := string(rune('a'+h.Intn(4))), string(rune('A'+n%26))
		if h.Intn(3) == 0 {
			value = ""
		}
		h.write(i, key, value)
	}
}

// close ends all, and vacuums once from the beginning.
func (h *history) close() {
	for len(h.open) > 0 {
		h.end(0, []api.Status{api.Committed, api.Aborted}[h.Intn(2)])
	}
	h.next = 0
	for range len(h.pages) + 2 {
		h.sweep()
	}
}

// holdsJustThat asks that the pages hold one frozen version of each key that is there, and nothing else (T6).
func (h *history) holdsJustThat() {
	got := map[string]string{}
	for _, v := range h.live() {
		if _, twice := got[v.Key]; twice || !v.Frozen || v.Xmax != 0 {
			h.t.Fatalf("%+v is left", v)
		}
		got[v.Key] = v.Value
	}
	if !maps.Equal(got, h.committed) {
		h.t.Fatalf("left are %v, not %v", got, h.committed)
	}
	for n, p := range h.pages {
		for slot, item := range p.Items {
			if s := tuple.State(item); s != api.Live && s != api.Free {
				h.t.Fatalf("page %d, slot %d: %q", n, slot, item)
			}
		}
	}
}

func TestHistoriesGoRoundTheRing(t *testing.T) {
	for seed := range int64(30) {
		h := newHistory(t, 16+2*int(seed%3), seed)
		for n := range 1500 {
			h.step(n)
			h.reads()
			if n%300 == 299 {
				h.close()
				h.holdsJustThat()
			}
		}
		if h.taken < 3*h.modulus || h.frozen < 20 || h.off < 5 || h.gone < 50 {
			t.Errorf("a history that shows little: %d ids, %d frozen, %d off, %d gone", h.taken, h.frozen, h.off, h.gone)
		}
	}
}
