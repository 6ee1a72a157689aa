package session_test

import (
	"iter"
	"math/rand"
	"reflect"
	"testing"

	"almonry/api"
	"almonry/blink"
	"almonry/heap"
	"almonry/node"
	"almonry/session"
	"almonry/snap"
	"almonry/tuple"
)

// told is what comes in to a plan at a time.
type told struct {
	got   bool
	err   api.Errno
	space int
	view  api.View
	body  api.Page
	fresh []int
}

// second is a second reading of the chapter: a call from its beginning to its end, which stops where it wants something.
type second struct {
	ask    api.Ask
	own    int
	want   api.Want
	in     told
	record api.Record // of the last page
	logs   bool
	heaps  bool // whether the page that it wants is one of versions
	need   func(body api.Page) int
	reply  api.Reply
	yield  func(struct{}) bool
	next   func() (struct{}, bool)
	stop   func()
}

// over unwinds a call that ends ahead of its last line.
type over struct{}

func newSecond(a api.Ask, own int) *second {
	s := &second{ask: a, own: own}
	s.next, s.stop = iter.Pull(func(yield func(struct{}) bool) {
		defer func() {
			if x := recover(); x != nil && x != (over{}) {
				panic(x)
			}
			s.want = theEnd
		}()
		s.yield = yield
		s.whole()
	})
	s.next()
	return s
}

// tell goes on with what came in.
func (s *second) tell(in told) {
	s.in = in
	s.next()
}

func (s *second) fail(err api.Errno) {
	if s.want != theEnd {
		s.stop()
		s.reply = api.Reply{Err: err}
	}
}

func (s *second) ends(r api.Reply) {
	s.reply = r
	panic(over{})
}

func (s *second) orEnds(err api.Errno) {
	if err != api.OK {
		s.ends(api.Reply{Err: err})
	}
}

func (s *second) waits(want api.Want) told {
	s.want = want
	if !s.yield(struct{}{}) {
		panic(over{})
	}
	return s.in
}

func (s *second) page(n int) told { return s.waits(pageWant(n)) }

func (s *second) heapPage(n int) told {
	s.heaps = true
	in := s.page(n)
	s.heaps = false
	return in
}

func (s *second) log(r api.Record) {
	r.Xid = s.own
	s.record, s.logs = r, true
}

// down is the page of the node to which the way leads, and what was shown there.
func (s *second) down(e api.Entry, level int) (int, told) {
	n := 1
	for range 4096 {
		in := s.page(n)
		to, there, err := blink.Way(in.body, level, e)
		if err != api.OK {
			break
		}
		if there {
			return n, in
		}
		n = to
	}
	s.ends(api.Reply{Err: api.ErrPage})
	return 0, told{}
}

func (s *second) whole() {
	writes := s.ask.Call == api.Put || s.ask.Call == api.Delete
	for writes {
		in := s.waits(lockWant(s.ask.Key))
		s.orEnds(in.err)
		if in.got {
			break
		}
	}
	var result api.Reply
	var old *api.Entry
	s.versions(func(v api.View, e api.Entry, t api.Tuple) {
		visible := snap.Visible(v, t)
		if writes && snap.Newer(v, t) {
			s.orEnds(api.ErrConflict)
		}
		if writes && visible {
			old = &e
		}
		if s.ask.Call == api.Get && visible {
			s.ends(api.Reply{Found: true, Value: t.Value})
		}
		if s.ask.Call == api.Scan && visible {
			result.Rows = append(result.Rows, api.Row{Key: e.Key, Value: t.Value})
			if len(result.Rows) == s.ask.N {
				s.ends(result)
			}
		}
	})
	if old != nil {
		r, err := heap.Mark(s.heapPage(old.Page).body, old.Page, old.Slot, s.own)
		s.orEnds(err)
		s.log(r)
		result.Found = true
	}
	if s.ask.Call == api.Put {
		s.enter(s.lay())
	}
	s.ends(result)
}

// versions is each version that is looked at.
func (s *second) versions(meet func(v api.View, e api.Entry, t api.Tuple)) {
	first, to := s.ask.Key, s.ask.To
	if first == "" {
		first = "\x00"
	}
	if s.ask.Call != api.Scan {
		to = s.ask.Key + "\x00"
	}
	_, in := s.down(api.Entry{Key: first}, 0)
	for {
		right := in.body.Right
		hits, more, err := blink.Hits(in.body, s.ask.Key, to)
		if err != api.OK {
			s.orEnds(api.ErrPage)
		}
		for _, e := range hits {
			shown := s.heapPage(e.Page)
			if t, ok := heap.Look(shown.body, e.Slot, e.Key); ok {
				meet(shown.view, e, t)
			}
		}
		if !more {
			return
		}
		in = s.page(right)
	}
}

func (s *second) lay() api.Entry {
	t := api.Tuple{Xmin: s.own, Key: s.ask.Key, Value: s.ask.Value}
	item, _ := tuple.Encode(t)
	for {
		n := s.waits(spaceWant(len(item))).space
		r, err := heap.Insert(s.heapPage(n).body, n, t)
		if err == api.OK {
			s.log(r)
			return api.Entry{Key: s.ask.Key, Page: n, Slot: r.Slot}
		}
		if err != api.ErrRoom {
			s.orEnds(api.ErrPage)
		}
	}
}

func (s *second) enter(e api.Entry) {
	item, _ := node.Encode(e)
	for level := 0; ; level++ {
		s.need = func(body api.Page) int {
			need := 0
			if _, there, err := blink.Way(body, level, e); err == api.OK && there {
				need, _ = blink.Need(body, s.want.Page, item)
			}
			return need
		}
		n, in := s.down(e, level)
		s.need = nil
		r, err := blink.Enter(in.body, n, item, in.fresh...)
		switch err {
		case api.OK:
		case api.ErrEntry:
			return
		case api.ErrArg:
			s.orEnds(api.ErrFull)
		default:
			s.orEnds(api.ErrPage)
		}
		s.log(r)
		up, child, ok := blink.Above(r)
		if !ok {
			return
		}
		e, item = up, sure(node.Sep(up, child))
	}
}

// drawn makes asks and pages by lot.
type drawn struct{ *rand.Rand }

func oneOf[T any](d drawn, list ...T) T { return list[d.Intn(len(list))] }

func (d drawn) key() string {
	return oneOf(d, "a", "a", "a", "b", "b", "b", "c", "a\x00", "ab", "\x00", "m", "z", longKey)
}

func (d drawn) asked() api.Ask {
	a := api.Ask{Call: oneOf(d, api.Get, api.Put, api.Put, api.Put, api.Delete, api.Scan), Key: d.key(), N: 1 + d.Intn(16)}
	if a.Call == api.Scan {
		a.Key, a.To = oneOf(d, "", d.key()), oneOf(d, "", d.key(), d.key())
	}
	a.Value = oneOf(d, "", "v", longValue)
	return a
}

func (d drawn) entry() api.Entry { return entry(d.key(), d.Intn(9), d.Intn(4)) }

func (d drawn) entries(most int) []api.Entry {
	var list []api.Entry
	p := node.Leaf()
	for range d.Intn(most + 1) {
		if q, err := node.Insert(p, d.entry()); err == api.OK {
			p = q
		}
	}
	list, _ = node.Entries(p)
	return list
}

// node is one of a level; often of the right kind, and often with room for a few entries, or none.
func (d drawn) node() api.Page {
	var p api.Page
	switch d.Intn(8) {
	case 0:
		p = innerOf(1+d.Intn(3), d.entries(5)...)
	case 1:
		p = oneOf(d, fullLeaf(), fullInner(1+d.Intn(2)))
	case 2:
		return oneOf(d, oddPages()...)
	case 3:
		p = leafOf(d.entries(30)...)
	default:
		p = leafOf(d.entries(6)...)
	}
	if d.Intn(3) == 0 {
		p.Right = d.Intn(5)
	}
	if d.Intn(3) == 0 {
		p.High = itemOf(d.entry())
	}
	return p
}

// heap is one whose slots often have versions of a key.
func (d drawn) heap(key string) api.Page {
	if d.Intn(12) == 0 {
		return oneOf(d, fullHeap(), leafOf(), api.Page{})
	}
	p := heapOf()
	for range d.Intn(6) {
		v := api.Tuple{Xmin: 1 + d.Intn(7), Frozen: d.Intn(6) == 0, Key: oneOf(d, key, key, d.key()), Value: oneOf(d, "", "x", "yy")}
		if d.Intn(3) == 0 {
			v.Xmax = d.Intn(8)
		}
		p.Items = append(p.Items, oneOf(d, bytesOf(v), bytesOf(v), bytesOf(v), ""))
	}
	return p
}

func (d drawn) view() api.View {
	v := view()
	v.Own = oneOf(d, own, own, 0, 6)
	v.Snapshot.Next = 4 + d.Intn(4)
	return v
}

// body is a page to be shown, mostly one of the kind that is wanted.
func (d drawn) body(s *second) api.Page {
	if s.heaps == (d.Intn(20) > 0) {
		return d.heap(oneOf(d, max(s.ask.Key, "a"), d.key()))
	}
	if s.need != nil && d.Intn(3) == 0 {
		return oneOf(d, fullLeaf(), fullLeaf(), fullInner(1), fullInner(2))
	}
	return d.node()
}

// fresh is as many new pages as are needed, and now and then others.
func (d drawn) fresh(need int) []int {
	if d.Intn(15) == 0 {
		return oneOf(d, []int{}, []int{9}, []int{9, 9}, []int{1, 9}, []int{5, 70000})
	}
	return []int{20 + d.Intn(9), 30 + d.Intn(9)}[:need]
}

// agree holds a plan against the second reading.
func agree(t *testing.T, d drawn, p *session.Plan, s *second) {
	t.Helper()
	if got := p.Want(); got != s.want {
		t.Fatalf("%+v: wants %+v, want %+v", s.ask, got, s.want)
	}
	want := api.Reply{}
	if s.want == theEnd {
		want = s.reply
	}
	if got := p.Reply(); !same(got, want) {
		t.Fatalf("%+v: replies %+v, want %+v", s.ask, got, want)
	}
	for range 2 {
		body, need := d.body(s), 0
		if s.need != nil && s.want.Kind == api.WantPage {
			need = s.need(body)
		}
		if got := p.Need(body); got != need {
			t.Fatalf("%+v: needs %d of %+v, want %d", s.ask, got, body, need)
		}
	}
}

// step tells both something, which sometimes neither wants.
func step(t *testing.T, d drawn, p *session.Plan, s *second) {
	t.Helper()
	s.record, s.logs = api.Record{}, false
	kind := s.want.Kind
	if d.Intn(10) == 0 {
		kind = 1 + d.Intn(3)
	}
	in := told{got: d.Intn(3) > 0, space: d.Intn(9), view: d.view(), body: d.body(s)}
	switch kind {
	case api.WantLock:
		if d.Intn(20) == 0 {
			in.err = api.ErrDeadlock
		}
		p.Lock(in.got, in.err)
	case api.WantSpace:
		p.Space(in.space)
	case api.WantPage:
		in.fresh = d.fresh(p.Need(in.body))
		got, is := p.Page(in.view, in.body, in.fresh...)
		if s.want.Kind == kind {
			s.tell(in)
		}
		if s.want.Kind == theEnd.Kind && s.reply.Err != api.OK && s.logs {
			t.Fatalf("%+v: a record beside an error", s.ask)
		}
		if want := s.record; is != s.logs || !reflect.DeepEqual(got, want) {
			t.Fatalf("%+v: of %+v: logs %v %+v, want %v %+v", s.ask, in.body, is, got, s.logs, want)
		}
		return
	}
	if s.want.Kind == kind {
		s.tell(in)
	}
}

// deed is a record that was logged.
type deed struct {
	kind   api.Kind
	images int
	goesOn bool // down the tree
}

// Calls that are told and shown all kinds of things, held against the second reading.
func TestAgainstASecondReading(t *testing.T) {
	d := drawn{rand.New(rand.NewSource(19))}
	endings := map[api.Call]map[api.Errno]int{api.Get: {}, api.Put: {}, api.Delete: {}, api.Scan: {}}
	logged := map[deed]int{}
	for range 9000 {
		a := d.asked()
		p, err := session.New(a, own)
		if err != api.OK {
			t.Fatalf("New(%+v): %v", a, err)
		}
		s := newSecond(a, own)
		for s.want != theEnd {
			agree(t, d, p, s)
			if d.Intn(200) == 0 {
				p.Fail(api.ErrLog)
				s.fail(api.ErrLog)
			} else {
				step(t, d, p, s)
				if s.logs {
					logged[deed{s.record.Kind, len(s.record.Images), s.want == pageWant(1)}]++
				}
			}
		}
		agree(t, d, p, s)
		endings[a.Call][s.reply.Err]++
		s.stop()
	}
	for _, x := range []deed{
		{api.Mark, 0, false}, {api.Insert, 0, true}, {api.EntryIn, 0, false}, {api.Split, 2, true}, {api.Split, 3, false},
	} {
		if logged[x] < 20 {
			t.Errorf("%+v was logged only %d times", x, logged[x])
		}
	}
	for call, by := range endings {
		wants := []api.Errno{api.OK, api.ErrPage, api.ErrLog}
		if call == api.Put {
			wants = append(wants, api.ErrFull)
		}
		if call == api.Put || call == api.Delete {
			wants = append(wants, api.ErrConflict, api.ErrDeadlock)
		}
		for _, err := range wants {
			if by[err] < 5 {
				t.Errorf("call %d has ended with %v only %d times", call, err, by[err])
			}
		}
	}
}
