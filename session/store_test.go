package session_test

import (
	"fmt"
	"maps"
	"math/rand"
	"slices"
	"testing"

	"almonry/api"
	"almonry/apply"
	"almonry/clog"
	"almonry/heap"
	"almonry/locks"
	"almonry/node"
	"almonry/session"
	"almonry/snap"
	"almonry/space"
)

// Plans of several sessions that go on in turns over one tree, held against what each transaction should see (P19.9, and DOC.md's T1).

const storeModulus = 1024

// store does what plans want, as an engine would, but for the log.
type store struct {
	drawn
	t         *testing.T
	pages     map[int]api.Page
	next      int // the next page
	nextID    int
	lsn       int
	locks     *locks.Table
	rooms     *space.Map
	open      map[int]*transaction
	committed map[string]string
	changed   map[string]int // of a key: the commit that changed it last
	commits   int
	entered   map[api.Entry]int // 1: it is in the tree; 2: it may be
	seen      map[string]int    // what has come up, and how often
}

// transaction is an open one, with what it should see.
type transaction struct {
	who      int
	xid      int
	snapshot api.Snapshot
	sees     map[string]string
	began    int
	wrote    []string
	log      []api.Record
	ask      api.Ask
	plan     *session.Plan
	entry    api.Entry // of its call: what was laid
}

func newStore(t *testing.T, seed int64) *store {
	return &store{
		drawn: drawn{rand.New(rand.NewSource(seed))}, t: t,
		pages: map[int]api.Page{0: sure(clog.Blank(storeModulus, 1)), 1: node.Leaf()}, next: 2, nextID: 1,
		locks: locks.New(), rooms: space.New(), open: map[int]*transaction{},
		committed: map[string]string{}, changed: map[string]int{}, entered: map[api.Entry]int{}, seen: map[string]int{},
	}
}

func (s *store) running() []int {
	var ids []int
	for _, x := range s.open {
		ids = append(ids, x.xid)
	}
	return ids
}

func (s *store) begin(who int) {
	x := &transaction{
		who: who, xid: s.nextID, snapshot: snap.Take(s.nextID, s.running()...),
		sees: maps.Clone(s.committed), began: s.commits,
	}
	s.nextID++
	s.open[who] = x
}

func (s *store) view(x *transaction) api.View {
	return api.View{Modulus: storeModulus, Snapshot: x.snapshot, Own: x.xid, Running: s.running(), Clog: s.pages[0]}
}

// log does a record to the pages.
func (s *store) log(x *transaction, r api.Record) {
	s.t.Helper()
	s.lsn++
	r.LSN = s.lsn
	if r.Xid != x.xid {
		s.t.Fatalf("%+v is logged by %d", r, x.xid)
	}
	for _, n := range apply.Touches(r) {
		body, err := apply.Do(storeModulus, s.pages[n], n, r)
		if err != api.OK {
			s.t.Fatalf("page %d behind %+v: %v", n, r, err)
		}
		s.pages[n] = body
		if body.Kind == api.HeapPage {
			s.rooms.Set(n, heap.Room(body))
		}
	}
	x.log = append(x.log, r)
}

// end is a commit, or else what was done is undone, or stays as it is.
func (s *store) end(x *transaction, commits bool) {
	s.t.Helper()
	kind := api.RolledBack
	if commits {
		kind = api.Commited
		s.commits++
		for _, key := range x.wrote {
			s.changed[key] = s.commits
			delete(s.committed, key)
			if value, is := x.sees[key]; is {
				s.committed[key] = value
			}
		}
	} else if s.Intn(2) == 0 {
		for _, r := range slices.Backward(slices.Clone(x.log)) {
			if back, err := apply.Back(r); err == api.OK {
				s.log(x, back)
			}
		}
	}
	s.log(x, api.Record{Kind: kind, Xid: x.xid})
	delete(s.open, x.who)
	s.locks.Release(x.who)
}

func (s *store) asked() api.Ask {
	key := func() string { return fmt.Sprintf("%024d", s.Intn(40)) }
	switch s.Intn(8) {
	case 0, 1, 2, 3:
		return put(key(), fmt.Sprint(s.lsn, longValue)[:s.Intn(64)])
	case 4:
		return remove(key())
	case 5, 6:
		return get(key())
	}
	return scan(oneOf(s.drawn, "", key()), oneOf(s.drawn, "", key(), key()), 1+s.Intn(16))
}

// want does what a plan wants.
func (s *store) want(x *transaction) {
	s.t.Helper()
	switch w := x.plan.Want(); w.Kind {
	case api.WantLock:
		x.plan.Lock(s.locks.Try(x.who, w.Key))
	case api.WantSpace:
		x.plan.Space(s.space(w.Size))
	case api.WantPage:
		s.show(x, w.Page)
	default:
		s.t.Fatalf("wants %+v", w)
	}
	if x.plan.Want() == theEnd {
		s.answered(x, x.plan.Reply())
		x.plan = nil
	}
}

// space is a page with room, but sometimes one that has none.
func (s *store) space(size int) int {
	if pages := s.rooms.Pages(); len(pages) > 0 && s.Intn(20) == 0 {
		return oneOf(s.drawn, pages...)
	}
	n, is := s.rooms.Find(size)
	if !is {
		n = s.next
		s.next++
		s.pages[n] = heap.Blank()
		s.rooms.Set(n, heap.Room(heap.Blank()))
	}
	return n
}

func (s *store) show(x *transaction, n int) {
	s.t.Helper()
	var fresh []int
	for range x.plan.Need(s.pages[n]) {
		fresh = append(fresh, s.next)
		s.next++
	}
	r, is := x.plan.Page(s.view(x), s.pages[n], fresh...)
	if !is {
		return
	}
	if x.ask.Call == api.Get || x.ask.Call == api.Scan {
		s.t.Fatalf("%+v logs %+v", x.ask, r)
	}
	s.log(x, r)
	s.seen[fmt.Sprint("kind ", r.Kind, " of ", len(r.Images))]++
	switch {
	case r.Kind == api.Insert:
		x.entry = entry(x.ask.Key, r.Page, r.Slot)
		s.entered[x.entry] = 2
	case x.entry.Key != "":
		s.entered[x.entry] = 1
		x.entry = api.Entry{}
	}
}

// answered holds a reply against what the transaction should see.
func (s *store) answered(x *transaction, got api.Reply) {
	s.t.Helper()
	s.seen[fmt.Sprint("call ", x.ask.Call, " error ", int(got.Err))]++
	if got.Err == api.ErrDeadlock || got.Err == api.ErrLog {
		s.end(x, false)
		return
	}
	a := x.ask
	value, is := x.sees[a.Key]
	var want api.Reply
	switch {
	case a.Call == api.Get:
		want = api.Reply{Found: is, Value: value}
	case a.Call == api.Scan:
		want.Rows = x.rows()
	case s.changed[a.Key] > x.began:
		want.Err = api.ErrConflict
	default:
		want.Found = is
	}
	if !same(got, want) {
		s.t.Fatalf("%d: %+v is answered %+v, want %+v", x.xid, a, got, want)
	}
	switch {
	case want.Err != api.OK:
		s.end(x, false)
	case a.Call == api.Put:
		x.sees[a.Key] = a.Value
		x.wrote = append(x.wrote, a.Key)
	case a.Call == api.Delete && is:
		delete(x.sees, a.Key)
		x.wrote = append(x.wrote, a.Key)
	}
}

func (x *transaction) rows() []api.Row {
	var list []api.Row
	for _, key := range slices.Sorted(maps.Keys(x.sees)) {
		if key >= x.ask.Key && (x.ask.To == "" || key < x.ask.To) && len(list) < x.ask.N {
			list = append(list, api.Row{Key: key, Value: x.sees[key]})
		}
	}
	return list
}

// turn is one step of a session, if it does not wait for a key.
func (s *store) turn(who int) {
	s.t.Helper()
	x := s.open[who]
	_, waits := s.locks.Waits(who)
	switch {
	case x == nil:
		s.begin(who)
	case waits:
		s.seen["waits"]++
	case x.plan != nil && s.Intn(1500) == 0:
		x.plan.Fail(api.ErrLog)
		s.answered(x, x.plan.Reply())
	case x.plan != nil:
		s.want(x)
	case s.Intn(8) == 0:
		s.end(x, s.Intn(5) > 0)
	default:
		s.ask(x, s.asked())
	}
}

func (s *store) ask(x *transaction, a api.Ask) {
	s.t.Helper()
	x.ask, x.entry = a, api.Entry{}
	p, err := session.New(a, x.xid)
	if err != api.OK {
		s.t.Fatalf("New(%+v, %d): %v", a, x.xid, err)
	}
	x.plan = p
}

// alone is a call from its beginning to its end.
func (s *store) alone(x *transaction, a api.Ask) {
	s.t.Helper()
	for s.ask(x, a); x.plan != nil; {
		s.want(x)
	}
}

// tree holds all leaves, from the first one on, against what was entered.
func (s *store) tree() {
	s.t.Helper()
	p := s.pages[1]
	for p.Level > 0 {
		_, kids, err := node.Kids(p)
		if err != api.OK {
			s.t.Fatalf("%+v: %v", p, err)
		}
		p = s.pages[kids[0]]
	}
	all := map[api.Entry]int{}
	for {
		for _, e := range sure(node.Entries(p)) {
			if s.entered[e] == 0 || all[e] > 0 {
				s.t.Fatalf("%v is in the tree", e)
			}
			all[e] = 1
		}
		if p.Right == 0 {
			break
		}
		p = s.pages[p.Right]
	}
	for e, is := range s.entered {
		if is == 1 && all[e] == 0 {
			s.t.Fatalf("%v is not in the tree", e)
		}
	}
}

func TestSessionsInTurns(t *testing.T) {
	seen, levels := map[string]int{}, 0
	for seed := range int64(6) {
		s := newStore(t, seed)
		s.seen = seen
		for s.nextID < 250 {
			s.turn(s.Intn(5))
		}
		s.tree()
		for who := range 5 {
			if x := s.open[who]; x != nil {
				s.end(x, false)
			}
		}
		s.begin(0)
		x := s.open[0]
		for n := range 41 {
			s.alone(x, get(fmt.Sprintf("%024d", n)))
			s.alone(x, scan(fmt.Sprintf("%024d", n), "", 16))
			s.alone(x, scan("", fmt.Sprintf("%024d", n), 16))
		}
		levels = max(levels, s.pages[1].Level)
	}
	if levels < 2 {
		t.Errorf("no tree has more than %d levels above its leaves", levels)
	}
	for _, what := range []string{
		"kind 1 of 0", "kind 2 of 0", "kind 3 of 0", "kind 5 of 2", "kind 5 of 3", "waits", "call 2 error 0", "call 3 error 0",
		"call 4 error 0", "call 5 error 0", "call 3 error 180", "call 3 error 181", "call 4 error 180", "call 3 error 50",
	} {
		if seen[what] < 3 {
			t.Errorf("%q has come up %d times", what, seen[what])
		}
	}
}
