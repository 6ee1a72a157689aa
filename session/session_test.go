package session_test

import (
	"fmt"
	"math"
	"reflect"
	"slices"
	"strings"
	"testing"

	"almonry/api"
	"almonry/clog"
	"almonry/heap"
	"almonry/node"
	"almonry/session"
	"almonry/tuple"
)

const own = 5

var (
	longKey   = strings.Repeat("k", 24)
	longValue = strings.Repeat("v", 64)
	theEnd    = api.Want{Kind: api.WantEnd}
	found     = api.Reply{Found: true}
)

func get(key string) api.Ask        { return api.Ask{Call: api.Get, Key: key} }
func put(key, value string) api.Ask { return api.Ask{Call: api.Put, Key: key, Value: value} }
func remove(key string) api.Ask     { return api.Ask{Call: api.Delete, Key: key} }
func scan(key, to string, n int) api.Ask {
	return api.Ask{Call: api.Scan, Key: key, To: to, N: n}
}

func pageWant(n int) api.Want        { return api.Want{Kind: api.WantPage, Page: n} }
func lockWant(key string) api.Want   { return api.Want{Kind: api.WantLock, Key: key} }
func spaceWant(size int) api.Want    { return api.Want{Kind: api.WantSpace, Size: size} }
func errReply(e api.Errno) api.Reply { return api.Reply{Err: e} }

func rows(pairs ...string) api.Reply {
	var r api.Reply
	for i := 0; i < len(pairs); i += 2 {
		r.Rows = append(r.Rows, api.Row{Key: pairs[i], Value: pairs[i+1]})
	}
	return r
}

func sure[T any](x T, err api.Errno) T {
	if err != api.OK {
		panic(fmt.Sprint(x, err))
	}
	return x
}

func entry(key string, page, slot int) api.Entry { return api.Entry{Key: key, Page: page, Slot: slot} }

func itemOf(e api.Entry) string { return sure(node.Encode(e)) }

func bytesOf(v api.Tuple) string { return sure(tuple.Encode(v)) }

func leafOf(list ...api.Entry) api.Page {
	p := api.Page{LSN: 9, Kind: api.NodePage}
	for _, e := range list {
		p.Items = append(p.Items, itemOf(e))
	}
	return p
}

// innerOf has the children 30, 31 and so on, the first one at the least.
func innerOf(level int, list ...api.Entry) api.Page {
	p := api.Page{LSN: 9, Kind: api.NodePage, Level: level, Items: []string{sure(node.Sep(api.Entry{}, 30))}}
	for i, e := range list {
		p.Items = append(p.Items, sure(node.Sep(e, 31+i)))
	}
	return p
}

// bounded is a page of another Right and High.
func bounded(p api.Page, right int, high api.Entry) api.Page {
	p.Right, p.High = right, itemOf(high)
	return p
}

func heapOf(versions ...api.Tuple) api.Page {
	p := api.Page{LSN: 8, Kind: api.HeapPage}
	for _, v := range versions {
		p.Items = append(p.Items, bytesOf(v))
	}
	return p
}

// fullHeap has no room for one more version, and none to end one that came in all the same.
func fullHeap() api.Page {
	return api.Page{Kind: api.HeapPage, Items: []string{strings.Repeat("x", heap.Room(heapOf()))}}
}

// numbered are entries that rise with their numbers; each one's bytes are seven, and its separator's eight.
func numbered(from, to, page int) []api.Entry {
	var list []api.Entry
	for n := from; n <= to; n += 2 {
		list = append(list, entry(fmt.Sprintf("k%03d", n), page, 1))
	}
	return list
}

// fullLeaf and fullInner have no room for one entry more; no entry of the one is one of the other.
func fullLeaf() api.Page { return leafOf(numbered(0, 106, 1)...) }

func fullInner(level int) api.Page { return innerOf(level, numbered(2, 96, 3)...) }

// view is what the transaction 5 sees: 1 and 3 have committed, 2 has not, 4 runs; 6 has committed later.
func view() api.View {
	c := sure(clog.Blank(16, 1))
	for x, s := range map[int]api.Status{1: api.Committed, 2: api.Aborted, 3: api.Committed, 6: api.Committed} {
		c = sure(clog.Set(16, c, x, s))
	}
	return api.View{Modulus: 16, Snapshot: api.Snapshot{Next: own, Active: []int{4}}, Own: own, Running: []int{4, own}, Clog: c}
}

// talk is a plan that is told and shown things.
type talk struct {
	t *testing.T
	*session.Plan
	v api.View
}

func begun(t *testing.T, a api.Ask, own int) *talk {
	t.Helper()
	p, err := session.New(a, own)
	if err != api.OK || p == nil {
		t.Fatalf("New(%+v, %d): %v %v", a, own, p, err)
	}
	return &talk{t, p, view()}
}

// locked is a plan of a Put or Delete that has its key.
func locked(t *testing.T, a api.Ask) *talk {
	t.Helper()
	k := begun(t, a, own)
	k.wants(lockWant(a.Key))
	k.Lock(true, api.OK)
	return k
}

// wants asks what it wants, which is not the end, so that it has no reply.
func (k *talk) wants(want api.Want) {
	k.t.Helper()
	if got := k.Want(); got != want {
		k.t.Errorf("wants %+v, want %+v", got, want)
	}
	if got := k.Reply(); !reflect.DeepEqual(got, api.Reply{}) {
		k.t.Errorf("replies %+v ahead of its end", got)
	}
}

// shown is a page of which nothing is to be logged.
func (k *talk) shown(page int, body api.Page, fresh ...int) {
	k.t.Helper()
	k.wants(pageWant(page))
	if got, is := k.Page(k.v, body, fresh...); is || !reflect.DeepEqual(got, api.Record{}) {
		k.t.Errorf("page %d %+v: logs %v %+v", page, body, is, got)
	}
}

// logs is a page of which a record is wanted logged.
func (k *talk) logs(page int, body api.Page, want api.Record, fresh ...int) {
	k.t.Helper()
	k.wants(pageWant(page))
	if got, is := k.Page(k.v, body, fresh...); !is || !reflect.DeepEqual(got, want) {
		k.t.Errorf("page %d %+v: logs %v %+v, want %+v", page, body, is, got, want)
	}
}

// ends asks for the reply, and that nothing changes it any more.
func (k *talk) ends(want api.Reply) {
	k.t.Helper()
	for range 2 {
		if got := k.Want(); got != theEnd {
			k.t.Errorf("wants %+v, want the end", got)
		}
		if got := k.Reply(); !same(got, want) {
			k.t.Errorf("replies %+v, want %+v", got, want)
		}
		k.Lock(true, api.OK)
		k.Lock(false, api.ErrDeadlock)
		k.Space(3)
		k.Fail(api.ErrDead)
		for _, body := range []api.Page{leafOf(), heapOf(), fullLeaf(), {}} {
			if got := k.Need(body); got != 0 {
				k.t.Errorf("needs %d behind its end", got)
			}
			if got, is := k.Page(k.v, body, 7); is || !reflect.DeepEqual(got, api.Record{}) {
				k.t.Errorf("logs %+v behind its end", got)
			}
		}
	}
}

// same holds replies against each other; a list without rows may be nil or not.
func same(a, b api.Reply) bool {
	rows := slices.Equal(a.Rows, b.Rows)
	a.Rows, b.Rows = nil, nil
	return rows && reflect.DeepEqual(a, b)
}

// The chapter's examples.
func TestExamples(t *testing.T) {
	tree, page2 := leafOf(entry("a", 2, 0)), heapOf(api.Tuple{Xmin: 1, Key: "a", Value: "x"})
	k := begun(t, get("a"), 0)
	k.shown(1, tree)
	k.shown(2, page2)
	k.ends(api.Reply{Found: true, Value: "x"})

	k = begun(t, get("b"), 0)
	k.shown(1, tree)
	k.ends(api.Reply{})

	k = locked(t, put("b", "y"))
	k.shown(1, tree)
	k.wants(spaceWant(9))
	k.Space(2)
	k.logs(2, page2, api.Record{Kind: api.Insert, Xid: own, Page: 2, Slot: 1, Data: bytesOf(api.Tuple{Xmin: own, Key: "b", Value: "y"})})
	k.logs(1, tree, api.Record{Kind: api.EntryIn, Xid: own, Page: 1, Data: itemOf(entry("b", 2, 1))})
	k.ends(api.Reply{})

	k = locked(t, remove("a"))
	k.shown(1, tree)
	k.shown(2, page2)
	k.logs(2, page2, api.Record{Kind: api.Mark, Xid: own, Page: 2, Old: 0, New: own})
	k.ends(found)
}

// P19.1

func TestNewRefuses(t *testing.T) {
	tooLong := longKey + "k"
	var list []api.Ask
	for call := range 256 {
		switch c := api.Call(call); c {
		case api.Get, api.Put, api.Delete, api.Scan:
		default:
			list = append(list, api.Ask{Call: c, Key: "a", To: "b", Value: "v", N: 3})
		}
	}
	for _, key := range []string{"", tooLong, strings.Repeat("k", 1000)} {
		list = append(list, get(key), put(key, "v"), remove(key), api.Ask{Call: api.Get, Key: key, To: "b", Value: "v", N: 3})
	}
	list = append(list, put("a", longValue+"v"), put(longKey, strings.Repeat("v", 1000)))
	list = append(list, scan(tooLong, "", 3), scan("", tooLong, 3), scan(tooLong, tooLong, 3))
	for _, n := range []int{math.MinInt, -1, 0, 17, math.MaxInt} {
		list = append(list, scan("a", "b", n), scan("", "", n))
	}
	for _, a := range list {
		for _, id := range []int{own, 1, 0} {
			if p, err := session.New(a, id); p != nil || err != api.ErrArg {
				t.Errorf("New(%+v, %d): %v %v", a, id, p, err)
			}
		}
	}
	for _, a := range []api.Ask{put("a", "v"), remove("a")} {
		for _, id := range []int{math.MinInt, -1, 0} {
			if p, err := session.New(a, id); p != nil || err != api.ErrArg {
				t.Errorf("New(%+v, %d): %v %v", a, id, p, err)
			}
		}
	}
}

func TestNewTakes(t *testing.T) {
	tooLong := strings.Repeat("x", 1000)
	for _, id := range []int{math.MinInt, -1, 0, 1, own, 1024, math.MaxInt} {
		for _, a := range []api.Ask{
			get("a"), get("\x00"), get(longKey), {Call: api.Get, Key: "a", To: tooLong, Value: tooLong, N: -1},
			scan("", "", 1), scan("", "", 16), scan(longKey, longKey, 3), scan("b", "a", 3), scan("a", "a", 3),
			{Call: api.Scan, Value: tooLong, N: 3},
		} {
			begun(t, a, id).wants(pageWant(1))
		}
		if id < 1 {
			continue
		}
		for _, a := range []api.Ask{
			put("a", ""), put(longKey, longValue), remove("a"), remove(longKey), remove("\x00"),
			{Call: api.Put, Key: "a", To: tooLong, N: -1}, {Call: api.Delete, Key: "a", To: tooLong, Value: tooLong, N: 99},
		} {
			begun(t, a, id).wants(lockWant(a.Key))
		}
	}
}

// P19.2

func TestLock(t *testing.T) {
	for _, a := range []api.Ask{put("a", "v"), remove("a")} {
		k := begun(t, a, own)
		for range 3 {
			k.wants(lockWant("a"))
			k.Lock(false, api.OK)
		}
		k.wants(lockWant("a"))
		k.Lock(true, api.OK)
		k.wants(pageWant(1))
		for _, got := range []bool{false, true} {
			for _, err := range []api.Errno{api.ErrDeadlock, api.ErrArg, -7, 9999} {
				k := begun(t, a, own)
				k.Lock(got, err)
				k.ends(errReply(err))
			}
		}
	}
}

func TestLockIsNothingWhereNoneIsWanted(t *testing.T) {
	leaf, page2 := leafOf(entry("a", 2, 0)), heapOf(api.Tuple{Xmin: 1, Key: "a", Value: "x"})
	tried := func(k *talk) {
		t.Helper()
		was := k.Want()
		for _, got := range []bool{false, true} {
			k.Lock(got, api.OK)
			k.Lock(got, api.ErrDeadlock)
			k.wants(was)
		}
	}
	k := begun(t, get("a"), 0)
	tried(k)
	k.shown(1, leaf)
	tried(k)
	k.shown(2, page2)
	k.ends(api.Reply{Found: true, Value: "x"})
	k = locked(t, put("a", "y"))
	tried(k)
	k.shown(1, leaf)
	tried(k)
	k.shown(2, page2)
	tried(k)
	k.Page(k.v, page2)
	tried(k)
	k.Space(2)
	tried(k)
	k.Page(k.v, page2)
	tried(k)
	k.Page(k.v, leaf)
	k.ends(found)
}

// P19.7

func TestSpaceAndPageAreNothingWhereNoneIsWanted(t *testing.T) {
	leaf := leafOf()
	k := begun(t, put("a", "v"), own)
	shows := func() {
		t.Helper()
		was := k.Want()
		for _, body := range []api.Page{leaf, heapOf(), {}} {
			if got, is := k.Page(k.v, body); is || !reflect.DeepEqual(got, api.Record{}) {
				t.Errorf("logs %+v where it wants %+v", got, was)
			}
			if got := k.Need(body); got != 0 {
				t.Errorf("needs %d where it wants %+v", got, was)
			}
		}
		k.wants(was)
	}
	k.Space(2)
	shows() // the key
	k.Lock(true, api.OK)
	k.Space(2)
	k.shown(1, leaf)
	shows() // room
	k.Space(2)
	k.Space(3)
	k.wants(pageWant(2))
	k.Page(k.v, heapOf())
	k.Space(3)
	k.wants(pageWant(1))
	k.Page(k.v, leaf)
	k.ends(api.Reply{})
}

func TestNeedIsNoughtWhereNothingIsEntered(t *testing.T) {
	full := fullLeaf()
	none := func(k *talk) {
		t.Helper()
		was := k.Want()
		for _, body := range []api.Page{full, fullInner(1), leafOf(), heapOf(), {}} {
			if got := k.Need(body); got != 0 {
				t.Errorf("needs %d where it wants %+v", got, was)
			}
		}
		k.wants(was)
	}
	for _, a := range []api.Ask{get("k001"), scan("", "", 3)} {
		none(begun(t, a, 0))
	}
	k := locked(t, put("k001", "v"))
	none(k)
	k.shown(1, full)
	none(k)
	k.Space(2)
	none(k)
	k.Page(k.v, heapOf())
	if got := k.Need(full); got != 2 {
		t.Errorf("needs %d, want 2", got)
	}
	k = locked(t, remove("a"))
	none(k)
	k.shown(1, leafOf(entry("a", 2, 0)))
	none(k)
	k.shown(2, heapOf(api.Tuple{Xmin: 1, Key: "a"}))
	none(k)
}

// P19.8

// stages are plans, each one a step further than the one ahead of it.
func stages(t *testing.T) []*talk {
	leaf, page2 := leafOf(entry("a", 2, 0)), heapOf(api.Tuple{Xmin: 1, Key: "a", Value: "x"})
	read := []func(k *talk){func(*talk) {}, func(k *talk) { k.Page(k.v, leaf) }}
	write := []func(k *talk){
		func(*talk) {},
		func(k *talk) { k.Lock(true, api.OK) },
		func(k *talk) { k.Page(k.v, leaf) },
		func(k *talk) { k.Page(k.v, page2) },
		func(k *talk) { k.Page(k.v, page2) },
		func(k *talk) { k.Space(2) },
		func(k *talk) { k.Page(k.v, page2) },
	}
	var list []*talk
	for _, a := range []api.Ask{get("a"), scan("", "", 9)} {
		for n := range read {
			k := begun(t, a, 0)
			for _, step := range read[:n+1] {
				step(k)
			}
			list = append(list, k)
		}
	}
	for n := range write {
		k := begun(t, put("a", "y"), own)
		for _, step := range write[:n+1] {
			step(k)
		}
		list = append(list, k)
	}
	return list
}

func TestFail(t *testing.T) {
	for _, err := range []api.Errno{api.ErrLog, api.ErrFull, api.ErrPage, -7, 9999, api.OK} {
		for _, k := range stages(t) {
			if k.Want() == theEnd {
				t.Fatal("ended too early")
			}
			k.Fail(err)
			k.ends(errReply(err))
		}
	}
}

func TestFailForgetsRowsAndWhatWasFound(t *testing.T) {
	k := begun(t, scan("", "", 9), 0)
	k.shown(1, leafOf(entry("a", 2, 0), entry("b", 2, 1)))
	k.shown(2, heapOf(api.Tuple{Xmin: 1, Key: "a"}))
	k.Fail(api.ErrDead)
	k.ends(errReply(api.ErrDead))
	k = locked(t, put("a", "y"))
	k.shown(1, leafOf(entry("a", 2, 0)))
	k.shown(2, heapOf(api.Tuple{Xmin: 1, Key: "a"}))
	k.Fail(api.ErrLog)
	k.ends(errReply(api.ErrLog))
}

func TestReplyIsTheCallers(t *testing.T) {
	k := begun(t, scan("", "", 9), 0)
	k.shown(1, leafOf(entry("a", 2, 0), entry("b", 2, 1)))
	body := heapOf(api.Tuple{Xmin: 1, Key: "a", Value: "x"}, api.Tuple{Xmin: 1, Key: "b", Value: "y"})
	k.shown(2, body)
	k.shown(2, body)
	r := k.Reply()
	r.Rows[0] = api.Row{Key: "other"}
	_ = append(r.Rows[:1], api.Row{Key: "another"})
	k.ends(rows("a", "x", "b", "y"))
}

func TestNilAndUnmadePlans(t *testing.T) {
	for _, p := range []*session.Plan{nil, {}} {
		p.Lock(true, api.OK)
		p.Lock(false, api.ErrDeadlock)
		p.Space(2)
		for _, body := range []api.Page{leafOf(), fullLeaf(), heapOf(), {}} {
			if got, is := p.Page(view(), body, 2, 3); is || !reflect.DeepEqual(got, api.Record{}) {
				t.Errorf("Page: %+v %v", got, is)
			}
			if got := p.Need(body); got != 0 {
				t.Errorf("Need: %d", got)
			}
		}
		if got := p.Want(); got != (api.Want{}) {
			t.Errorf("Want: %+v", got)
		}
		if got := p.Reply(); !reflect.DeepEqual(got, api.Reply{}) {
			t.Errorf("Reply: %+v", got)
		}
	}
	var p *session.Plan
	p.Fail(api.ErrLog)
	if p.Want() != (api.Want{}) || p.Reply().Err != api.OK {
		t.Error("a nil Plan has failed")
	}
}

func TestTwoPlansShareNothing(t *testing.T) {
	a, b := begun(t, scan("", "", 9), 0), begun(t, scan("", "", 9), 0)
	leaf, body := leafOf(entry("a", 2, 0), entry("b", 3, 0)), heapOf(api.Tuple{Xmin: 1, Key: "a", Value: "x"})
	a.shown(1, leaf)
	b.wants(pageWant(1))
	a.shown(2, body)
	b.shown(1, leaf)
	b.wants(pageWant(2))
	a.Fail(api.ErrPage)
	b.shown(2, body)
	b.shown(3, heapOf())
	b.ends(rows("a", "x"))
	a.ends(errReply(api.ErrPage))
}
