package vacuum_test

import (
	"fmt"
	"math"
	"reflect"
	"slices"
	"strings"
	"testing"

	"almonry/api"
	"almonry/clog"
	"almonry/page"
	"almonry/rec"
	"almonry/tuple"
	"almonry/vacuum"
)

// notHeaps are kinds of other pages, and of none.
var notHeaps = []int{math.MinInt, -2, -1, 0, api.ClogPage, api.NodePage, 4, 258, math.MaxInt}

// oddNumbers are pages' numbers, slots and horizons that nobody should come with.
var oddNumbers = []int{math.MinInt, math.MinInt + 1, -1 << 32, -1, 0, 1, 17, 1 << 32, math.MaxInt - 1, math.MaxInt}

// wrongModuli are odd ones, and those on both sides of what a modulus may be.
var wrongModuli = []int{math.MinInt, -16, -1, 0, 1, 14, 15, 17, 1023, 1025, 1026, math.MaxInt}

var longest = api.Tuple{Xmin: 1024, Xmax: 1024, Frozen: true, Key: strings.Repeat("k", 24), Value: strings.Repeat("v", 64)}

// sure is an answer that the tests take for granted.
func sure[T any](x T, err api.Errno) T {
	if err != api.OK {
		panic(err)
	}
	return x
}

func bytesOf(v api.Tuple) string { return sure(tuple.Encode(v)) }

func deadOf(key string) string { return sure(tuple.Dead(key)) }

func heapPage(items ...string) api.Page { return api.Page{LSN: 5, Kind: api.HeapPage, Items: items} }

// liveOf is a version of key k.
func liveOf(xmin, xmax int, frozen bool) string {
	return bytesOf(api.Tuple{Xmin: xmin, Xmax: xmax, Frozen: frozen, Key: "k", Value: "v"})
}

// broken are items that are no versions, no dead ones' keys, and not free.
func broken() []string {
	whole := bytesOf(longest)
	return []string{
		"\x05", "a", "\x04", "\x04\x00", "\x04\x01", "\x04\x01kk", "\x04\x19" + strings.Repeat("k", 25), "\x00\x01k", "\x01", "\x03",
		"\x01\x00\x01\x00\x00\x01k", "\x02" + whole[1:], whole[:len(whole)-1], whole + "v",
		"\x01\x00\x00\x00\x00\x01k\x00", "\x01\x00\x01\x00\x00\x00\x00", "\x01\x04\x01\x00\x00\x01k\x00", "\x01\x00\x02\x04\x01\x01k\x00",
		strings.Repeat("z", 600),
	}
}

// statuses is a page on which some transactions have a status.
func statuses(modulus int, of map[int]api.Status) api.Page {
	p := sure(clog.Blank(modulus, 1))
	for x, s := range of {
		p = sure(clog.Set(modulus, p, x, s))
	}
	return p
}

// example is the view of chapter 9's examples.
func example() api.View {
	return api.View{
		Modulus:  16,
		Snapshot: api.Snapshot{Next: 4, Active: []int{3}},
		Running:  []int{4},
		Clog:     statuses(16, map[int]api.Status{1: api.Committed, 2: api.Aborted, 3: api.Committed}),
	}
}

func sameWork(a, b api.Work) bool {
	return slices.Equal(a.Freeze, b.Freeze) && slices.Equal(a.Off, b.Off) && slices.Equal(a.Gone, b.Gone)
}

func sorts(t *testing.T, v api.View, horizon, number int, p api.Page, want api.Work) {
	t.Helper()
	if got := vacuum.Sort(v, horizon, number, p); !sameWork(got, want) {
		t.Errorf("Sort(%+v, %d, %d, %q): %+v, want %+v", v, horizon, number, p.Items, got, want)
	}
}

// freezes asks for both lists of a record whose other fields are noughts.
func freezes(t *testing.T, number int, w api.Work, slots, more []int) {
	t.Helper()
	got, ok := vacuum.Freeze(number, w)
	want := api.Record{Kind: api.Freeze, Page: number, Slots: slots, More: more}
	if !ok || !rec.Same(got, want) {
		t.Errorf("Freeze(%d, %+v): %+v %v, want %+v", number, w, got, ok, want)
	}
}

func cleans(t *testing.T, number int, w api.Work, slots ...int) {
	t.Helper()
	got, ok := vacuum.Clean(number, w)
	want := api.Record{Kind: api.Clean, Page: number, Slots: slots}
	if !ok || !rec.Same(got, want) {
		t.Errorf("Clean(%d, %+v): %+v %v, want %+v", number, w, got, ok, want)
	}
}

func isNothing(r api.Record, ok bool) bool { return !ok && rec.Same(r, api.Record{}) }

func at(slots ...int) []api.Entry {
	var entries []api.Entry
	for _, slot := range slots {
		entries = append(entries, api.Entry{Key: "k", Page: 7, Slot: slot})
	}
	return entries
}

func TestExample(t *testing.T) {
	p := heapPage(
		bytesOf(api.Tuple{Xmin: 1, Key: "a"}), bytesOf(api.Tuple{Xmin: 2, Key: "b"}), tuple.Free(), deadOf("k"),
		bytesOf(api.Tuple{Xmin: 1, Xmax: 2, Key: "c"}),
	)
	w := api.Work{
		Freeze: []int{0, 4}, Off: []int{4},
		Gone: []api.Entry{{Key: "b", Page: 7, Slot: 1}, {Key: "k", Page: 7, Slot: 3}},
	}
	sorts(t, example(), 4, 7, p, w)
	freezes(t, 7, w, []int{0, 4}, []int{4})
	cleans(t, 7, w, 1, 3)
}

// P20.1

func TestSortOfOtherPagesFindsNothing(t *testing.T) {
	items := []string{deadOf("k"), liveOf(1, 0, false), liveOf(1, 2, false), liveOf(2, 0, false), liveOf(9, 1, true)}
	for _, kind := range notHeaps {
		p := heapPage(items...)
		p.Kind = kind
		sorts(t, example(), 4, 7, p, api.Work{})
	}
	sorts(t, example(), 4, 7, api.Page{}, api.Work{})
	sorts(t, example(), 4, 7, heapPage(), api.Work{})
}

// What else stands in a page's head is not asked.
func TestSortLooksAtTheKindAndTheItemsAlone(t *testing.T) {
	p := api.Page{LSN: -9, Kind: api.HeapPage, Level: 3, Right: -1, High: "high", Items: []string{liveOf(1, 0, false), deadOf("k")}}
	sorts(t, example(), 4, 7, p, api.Work{Freeze: []int{0}, Gone: at(1)})
}

func TestSortOfEachKindOfVersion(t *testing.T) {
	const gone, old, off, both = "gone", "freeze", "off", "freeze and off"
	for _, c := range []struct {
		xmin, xmax int
		frozen     bool
		horizon    int
		want       string
	}{
		// 1 and 3 have committed, 2 has aborted, 4 runs, 5 is unknown.
		{1, 0, false, 4, old},
		{1, 0, false, 2, old},
		{1, 0, false, 1, ""}, // not ahead of itself
		{1, 0, false, 16, ""},
		{1, 0, false, 8, old}, // the gap is 7
		{1, 0, false, 9, ""},  // the gap is 8
		{3, 0, false, 4, old}, // also of what the view's snapshot does not see
		{3, 0, false, 3, ""},
		{2, 0, false, 4, gone},
		{2, 0, false, 2, gone}, // an aborted one's is gone whatever the horizon
		{2, 0, false, 12, gone},
		{4, 0, false, 5, ""},
		{5, 0, false, 6, ""},
		{1, 0, true, 4, ""}, // frozen already
		{2, 0, true, 4, ""}, // of a frozen one it does not matter who made it
		{4, 0, true, 4, ""},
		{1, 1, false, 4, gone},
		{1, 1, false, 1, ""},
		{1, 3, false, 4, gone}, // and not of Freeze
		{1, 3, false, 3, old},
		{1, 3, true, 4, gone},
		{1, 3, true, 3, ""},
		{4, 3, false, 4, gone}, // it does not matter who made it, either
		{5, 1, false, 4, gone},
		{1, 2, false, 4, both},
		{1, 2, false, 1, off},
		{1, 2, true, 4, off},
		{2, 2, true, 4, off},
		{2, 2, false, 4, gone}, // and not of Off
		{4, 2, false, 4, off},
		{5, 2, false, 4, off},
		{1, 4, false, 4, old},
		{1, 4, false, 5, old},
		{1, 4, true, 4, ""},
		{1, 5, false, 6, old},
		{2, 4, false, 4, gone},
		{4, 4, false, 5, ""},
		{4, 5, false, 6, ""},
		{17, 0, false, 4, ""}, // an id of other moduli
		{1, 17, false, 4, old},
		{17, 2, false, 4, off},
	} {
		want := api.Work{}
		if c.want == gone {
			want.Gone = at(2)
		}
		if c.want == old || c.want == both {
			want.Freeze = []int{2}
		}
		if c.want == off || c.want == both {
			want.Off = []int{2}
		}
		sorts(t, example(), c.horizon, 7, heapPage("", "broken", liveOf(c.xmin, c.xmax, c.frozen)), want)
	}
}

// A version is sorted by what became of transactions, not by what the view sees.
func TestSortDoesNotAskWhoLooks(t *testing.T) {
	p := heapPage(liveOf(1, 0, false), liveOf(1, 2, false), liveOf(2, 0, false), liveOf(1, 3, false), liveOf(4, 0, false))
	for own := -1; own <= 17; own++ {
		for next := 0; next <= 17; next++ {
			v := example()
			v.Own, v.Snapshot = own, api.Snapshot{Next: next, Active: []int{1, 2, own}}
			sorts(t, v, 4, 7, p, api.Work{Freeze: []int{0, 1}, Off: []int{1}, Gone: at(2, 3)})
		}
	}
}

// Who runs has not ended, whatever the page of statuses says already.
func TestSortMindsWhoRuns(t *testing.T) {
	p := heapPage(liveOf(1, 0, false), liveOf(2, 0, false), liveOf(5, 2, true), liveOf(5, 1, true))
	v := example()
	sorts(t, v, 4, 7, p, api.Work{Freeze: []int{0}, Off: []int{2}, Gone: at(1, 3)})
	v.Running = []int{4, 1}
	sorts(t, v, 4, 7, p, api.Work{Off: []int{2}, Gone: at(1)})
	v.Running = []int{2}
	sorts(t, v, 4, 7, p, api.Work{Freeze: []int{0}, Gone: at(3)})
	v.Running = []int{2, 1}
	sorts(t, v, 4, 7, p, api.Work{})
}

func TestSortOfDeadSlots(t *testing.T) {
	views := []api.View{{}, example(), {Modulus: 15}, {Modulus: 16, Running: []int{1, 2, 3}}}
	for _, v := range views {
		for _, horizon := range oddNumbers {
			for _, key := range []string{"a", "\x00", "\xff\xfe", "\x04", longest.Key} {
				want := api.Work{Gone: []api.Entry{{Key: key, Page: 7, Slot: 0}, {Key: "z", Page: 7, Slot: 2}}}
				sorts(t, v, horizon, 7, heapPage(deadOf(key), "", deadOf("z")), want)
			}
		}
	}
}

func TestSortPassesByAllOthers(t *testing.T) {
	items := append(broken(), "", "")
	sorts(t, example(), 4, 7, heapPage(items...), api.Work{})
	for i, item := range items {
		p := heapPage(liveOf(1, 0, false), item, liveOf(9, 2, true), item, item, deadOf("k"), item, liveOf(2, 0, false))
		sorts(t, example(), 4, 7, p, api.Work{Freeze: []int{0}, Off: []int{2}, Gone: at(5, 7)})
		if t.Failed() {
			t.Fatalf("broken item %d", i)
		}
	}
}

func TestSortNamesThePage(t *testing.T) {
	p := heapPage(liveOf(2, 0, false), deadOf("k"), liveOf(1, 3, false))
	for _, number := range oddNumbers {
		want := at(0, 1, 2)
		for i := range want {
			want[i].Page = number
		}
		sorts(t, example(), 4, number, p, api.Work{Gone: want})
	}
}

func TestSortOfTheLongestVersions(t *testing.T) {
	v := api.View{Modulus: 1024, Clog: statuses(1024, map[int]api.Status{1024: api.Committed, 1023: api.Aborted})}
	other := longest
	other.Frozen, other.Xmax = false, 1023
	p := heapPage(bytesOf(longest), bytesOf(other))
	gone := []api.Entry{{Key: longest.Key, Page: 65535, Slot: 0}}
	sorts(t, v, 1, 65535, p, api.Work{Freeze: []int{1}, Off: []int{1}, Gone: gone})
	sorts(t, v, 511, 65535, p, api.Work{Freeze: []int{1}, Off: []int{1}, Gone: gone})
	sorts(t, v, 512, 65535, p, api.Work{Off: []int{1}})
	sorts(t, v, 1024, 65535, p, api.Work{Off: []int{1}})
}

func TestSortOfManySlotsRises(t *testing.T) {
	four := []string{liveOf(1, 2, false), deadOf("k"), liveOf(2, 0, false), liveOf(3, 0, false)}
	p, want := heapPage(), api.Work{}
	for i := range 300 {
		p.Items = append(p.Items, four...)
		want.Freeze = append(want.Freeze, 4*i, 4*i+3)
		want.Off = append(want.Off, 4*i)
		want.Gone = append(want.Gone, at(4*i+1, 4*i+2)...)
	}
	sorts(t, example(), 4, 7, p, want)
}

func TestSortWithAnOddViewOrHorizon(t *testing.T) {
	p := heapPage(liveOf(1, 0, false), liveOf(2, 0, false), liveOf(1, 3, false), liveOf(1, 2, false), deadOf("k"))
	for _, modulus := range wrongModuli {
		v := example()
		v.Modulus = modulus
		sorts(t, v, 4, 7, p, api.Work{Gone: at(4)})
	}
	for _, body := range []api.Page{{}, {Kind: api.HeapPage, Items: example().Clog.Items}, statuses(24, nil)} {
		v := example()
		v.Clog = body
		sorts(t, v, 4, 7, p, api.Work{Gone: at(4)})
	}
	for _, horizon := range oddNumbers {
		if horizon == 1 {
			continue
		}
		// Nobody is ahead of what is no id.
		sorts(t, example(), horizon, 7, p, api.Work{Off: []int{3}, Gone: at(1, 4)})
	}
}

// P20.2

func TestFreeze(t *testing.T) {
	freezes(t, 7, api.Work{Freeze: []int{3}}, []int{3}, nil)
	freezes(t, 7, api.Work{Off: []int{3}}, nil, []int{3})
	freezes(t, 7, api.Work{Freeze: []int{}, Off: []int{0}}, nil, []int{0})
	freezes(t, 7, api.Work{Freeze: []int{0, 4}, Off: []int{4}, Gone: at(1, 3)}, []int{0, 4}, []int{4})
	// They are not put in order, and none is left out.
	freezes(t, 7, api.Work{Freeze: []int{4, 4, 0, -1}, Off: []int{math.MaxInt, 2, 2}}, []int{4, 4, 0, -1}, []int{math.MaxInt, 2, 2})
	for _, number := range oddNumbers {
		freezes(t, number, api.Work{Freeze: []int{1}, Off: []int{2}}, []int{1}, []int{2})
	}
}

func TestFreezeOfNothing(t *testing.T) {
	for _, w := range []api.Work{{}, {Freeze: []int{}, Off: []int{}}, {Gone: at(1)}, {Freeze: make([]int, 0, 4), Gone: at(0, 5)}} {
		if r, ok := vacuum.Freeze(7, w); !isNothing(r, ok) {
			t.Errorf("Freeze(%+v): %+v %v", w, r, ok)
		}
	}
}

func TestClean(t *testing.T) {
	cleans(t, 7, api.Work{Gone: at(0)}, 0)
	cleans(t, 7, api.Work{Gone: at(1, 3)}, 1, 3)
	cleans(t, 7, api.Work{Gone: at(5, 2, 5)}, 2, 5)
	cleans(t, 7, api.Work{Gone: at(9, 8, 7, 9, 8, 7, 7)}, 7, 8, 9)
	cleans(t, 7, api.Work{Freeze: []int{4}, Off: []int{6}, Gone: at(1)}, 1)
	cleans(t, 7, api.Work{Gone: at(math.MaxInt, 0, -1, math.MinInt, 0)}, math.MinInt, -1, 0, math.MaxInt)
	// The record's page is the one that is handed in, whatever page and key the entries name.
	mixed := []api.Entry{{Key: "b", Page: 8, Slot: 4}, {Key: "a", Page: 9, Slot: 4}, {Slot: 1}}
	for _, number := range oddNumbers {
		cleans(t, number, api.Work{Gone: mixed}, 1, 4)
	}
}

func TestCleanOfNothing(t *testing.T) {
	for _, w := range []api.Work{{}, {Gone: []api.Entry{}}, {Freeze: []int{1}}, {Off: []int{1}}, {Freeze: []int{0, 5}, Off: []int{5}, Gone: make([]api.Entry, 0, 4)}} {
		if r, ok := vacuum.Clean(7, w); !isNothing(r, ok) {
			t.Errorf("Clean(%+v): %+v %v", w, r, ok)
		}
	}
}

func TestFreezeAndCleanOfManySlots(t *testing.T) {
	var w api.Work
	var up []int
	for i := range 3000 {
		up = append(up, i)
		w.Freeze = append(w.Freeze, 2999-i)
		w.Gone = append(w.Gone, at(2999-i, i)...)
	}
	w.Off = w.Freeze
	freezes(t, 7, w, w.Freeze, w.Off)
	cleans(t, 7, w, up...)
}

// R2

// roomy has something behind its length.
func roomy[T any](hidden T, list ...T) []T { return append(slices.Clone(list), hidden)[:len(list)] }

func hidden[T any](list []T) T { return list[:len(list)+1][len(list)] }

func scribble(list []int) {
	list = list[:cap(list)]
	for i := range list {
		list[i] = 12345
	}
}

func TestSortWritesIntoNothing(t *testing.T) {
	items := []string{liveOf(1, 2, false), deadOf("k"), liveOf(2, 0, false), liveOf(3, 0, false)}
	fresh := func() (api.View, api.Page) {
		v := example()
		v.Running, v.Snapshot.Active = roomy(77, 6, 4, 5), roomy(77, 3, 1, 3)
		v.Clog.Items = roomy("hidden", v.Clog.Items...)
		return v, heapPage(roomy("hidden", items...)...)
	}
	v, p := fresh()
	wantView, wantPage := fresh()
	want := api.Work{Freeze: []int{0, 3}, Off: []int{0}, Gone: at(1, 2)}
	w := vacuum.Sort(v, 4, 7, p)
	again := vacuum.Sort(v, 4, 7, p)
	scribble(w.Freeze)
	if !slices.Equal(w.Off, want.Off) {
		t.Errorf("two lists of one answer share their elements: %+v", w)
	}
	scribble(w.Off)
	clear(w.Gone[:cap(w.Gone)])
	if !reflect.DeepEqual(v, wantView) || !page.Same(p, wantPage) {
		t.Errorf("written into: %+v, %+v", v, p)
	}
	if hidden(v.Running) != 77 || hidden(v.Snapshot.Active) != 77 || hidden(v.Clog.Items) != "hidden" || hidden(p.Items) != "hidden" {
		t.Errorf("written behind the length: %+v, %+v", v, p)
	}
	if !sameWork(again, want) || !sameWork(vacuum.Sort(v, 4, 7, p), want) {
		t.Errorf("another answer is changed: %+v", again)
	}
	clear(p.Items)
	clear(v.Running)
	if !sameWork(again, want) {
		t.Errorf("what is handed in is kept: %+v", again)
	}
}

func TestRecordsWriteIntoNothing(t *testing.T) {
	fresh := func() api.Work {
		same := roomy(77, 4, 0)
		return api.Work{Freeze: same, Off: same, Gone: roomy(api.Entry{Key: "hidden"}, at(5, 2, 5)...)}
	}
	w := fresh()
	frozen, _ := vacuum.Freeze(7, w)
	cleaned, _ := vacuum.Clean(7, w)
	scribble(frozen.Slots)
	if !slices.Equal(frozen.More, []int{4, 0}) {
		t.Errorf("two lists of one answer share their elements: %+v", frozen)
	}
	scribble(frozen.More)
	scribble(cleaned.Slots)
	if !sameWork(w, fresh()) || hidden(w.Freeze) != 77 || hidden(w.Gone).Key != "hidden" {
		t.Errorf("written into: %+v", w)
	}
	freezes(t, 7, w, []int{4, 0}, []int{4, 0})
	cleans(t, 7, w, 2, 5)
	frozen, _ = vacuum.Freeze(7, w)
	cleaned, _ = vacuum.Clean(7, w)
	clear(w.Freeze)
	clear(w.Gone)
	if !slices.Equal(frozen.Slots, []int{4, 0}) || !slices.Equal(cleaned.Slots, []int{2, 5}) {
		t.Errorf("what is handed in is kept: %+v %+v", frozen, cleaned)
	}
}

// R3

func TestCallsHangOnNothingElse(t *testing.T) {
	p := heapPage(liveOf(1, 2, false), deadOf("k"), liveOf(2, 0, false), liveOf(3, 0, false))
	first := fmt.Sprint(vacuum.Sort(example(), 4, 7, p))
	for horizon := range 18 {
		vacuum.Sort(api.View{}, horizon, horizon, p)
		w := vacuum.Sort(example(), horizon, horizon, p)
		vacuum.Freeze(horizon, w)
		vacuum.Clean(horizon, w)
		if again := fmt.Sprint(vacuum.Sort(example(), 4, 7, p)); again != first {
			t.Fatalf("behind a Sort with %d: %s, at first %s", horizon, again, first)
		}
	}
}
