package snap_test

import (
	"math"
	"reflect"
	"slices"
	"testing"

	"almonry/api"
	"almonry/clog"
	"almonry/snap"
	"almonry/xid"
)

// wrongModuli are odd ones, and those on both sides of what a modulus may be.
var wrongModuli = []int{math.MinInt, -16, -1, 0, 1, 14, 15, 17, 1023, 1025, 1026, math.MaxInt}

// statuses is a page on which some transactions have a status.
func statuses(t *testing.T, modulus int, of map[int]api.Status) api.Page {
	t.Helper()
	p, err := clog.Blank(modulus, 1)
	if err != api.OK {
		t.Fatal(err)
	}
	for x, s := range of {
		if p, err = clog.Set(modulus, p, x, s); err != api.OK {
			t.Fatal(x, err)
		}
	}
	return p
}

// all is a page on which everybody has one status.
func all(t *testing.T, modulus int, s api.Status) api.Page {
	t.Helper()
	of := map[int]api.Status{}
	for x := 1; x <= modulus; x++ {
		of[x] = s
	}
	return statuses(t, modulus, of)
}

// example is the view of the chapter's examples.
func example(t *testing.T) api.View {
	t.Helper()
	return api.View{
		Modulus:  16,
		Snapshot: api.Snapshot{Next: 4, Active: []int{3}},
		Running:  []int{4},
		Clog:     statuses(t, 16, map[int]api.Status{1: api.Committed, 2: api.Aborted, 3: api.Committed}),
	}
}

// ahead is chapter 7's Before, told by walking.
func ahead(modulus, a, b int) bool {
	if modulus < 16 || modulus > 1024 || modulus%2 != 0 || a < 1 || a > modulus || b < 1 || b > modulus {
		return false
	}
	for range modulus/2 - 1 {
		a++
		if a > modulus {
			a = 1
		}
		if a == b {
			return true
		}
	}
	return false
}

// model is what the chapter's words say of a view whose statuses are written out.
type model struct {
	view   api.View
	status map[int]api.Status
}

func (m model) is(x int, s api.Status) bool {
	got := m.status[x]
	for _, r := range m.view.Running {
		if r == x {
			got = api.Running
		}
	}
	return got == s
}

func (m model) sees(x int) bool {
	if x == m.view.Own && m.view.Own != 0 {
		return true
	}
	for _, a := range m.view.Snapshot.Active {
		if a == x {
			return false
		}
	}
	return m.is(x, api.Committed) && ahead(m.view.Modulus, x, m.view.Snapshot.Next)
}

func (m model) visible(t api.Tuple) bool {
	begun := m.sees(t.Xmin)
	if t.Frozen {
		begun = true
	}
	if t.Xmax == 0 {
		return begun
	}
	return begun && !m.sees(t.Xmax)
}

func (m model) newer(t api.Tuple) bool {
	if !t.Frozen && m.is(t.Xmin, api.Committed) && !m.sees(t.Xmin) {
		return true
	}
	return t.Xmax != 0 && m.is(t.Xmax, api.Committed) && !m.sees(t.Xmax)
}

func (m model) gone(t api.Tuple, horizon int) bool {
	if !t.Frozen && m.is(t.Xmin, api.Aborted) {
		return true
	}
	return t.Xmax != 0 && m.is(t.Xmax, api.Committed) && ahead(m.view.Modulus, t.Xmax, horizon)
}

func (m model) old(t api.Tuple, horizon int) bool {
	return !t.Frozen && m.is(t.Xmin, api.Committed) && ahead(m.view.Modulus, t.Xmin, horizon)
}

func (m model) off(t api.Tuple) bool { return t.Xmax != 0 && m.is(t.Xmax, api.Aborted) }

// models are views of the modulus 16 with all kinds of transactions: statuses of all sorts, some in Active, some run, on both sides of Next.
func models(t *testing.T) []model {
	t.Helper()
	of := map[int]api.Status{}
	for x := 1; x <= 16; x++ {
		of[x] = []api.Status{api.Committed, api.Aborted, api.Committed, api.Running, api.Committed, api.Unknown, api.Aborted}[x*x%7]
	}
	page := statuses(t, 16, of)
	var list []model
	for next := 0; next <= 17; next++ {
		for own := 0; own <= 17; own++ {
			v := api.View{Modulus: 16, Own: own, Clog: page}
			v.Snapshot = api.Snapshot{Next: next, Active: []int{max(next-2, 1), next + 1}}
			v.Running = []int{own, max(next-3, 1), next - 1}
			list = append(list, model{v, of})
		}
	}
	return list
}

// tuples are versions with all pairs of who made and ended them, also of no ids.
func tuples() []api.Tuple {
	var list []api.Tuple
	for xmin := -1; xmin <= 17; xmin++ {
		for xmax := -1; xmax <= 17; xmax++ {
			for _, frozen := range []bool{false, true} {
				list = append(list, api.Tuple{Xmin: xmin, Xmax: xmax, Frozen: frozen, Key: "k", Value: "v"})
			}
		}
	}
	return list
}

// P9.1

func TestTakeSortsTheRunningOnes(t *testing.T) {
	for _, c := range []struct {
		next          int
		running, want []int
	}{
		{4, nil, nil},
		{4, []int{}, nil},
		{1, []int{1}, []int{1}},
		{4, []int{3, 1, 3}, []int{1, 3}},
		{2, []int{16, 1, 15, 16, 1}, []int{1, 15, 16}},
		{1024, []int{5, 4, 3, 2, 1}, []int{1, 2, 3, 4, 5}},
		{7, []int{7, 7, 7, 7}, []int{7}},
		{0, []int{9, 0, -1, 9}, []int{-1, 0, 9}},
		{math.MinInt, []int{math.MaxInt, math.MinInt, 0}, []int{math.MinInt, 0, math.MaxInt}},
		{math.MaxInt, []int{2, 1}, []int{1, 2}},
	} {
		got := snap.Take(c.next, c.running...)
		if got.Next != c.next || !slices.Equal(got.Active, c.want) {
			t.Errorf("Take(%d, %d): %+v, want %d", c.next, c.running, got, c.want)
		}
	}
}

func TestTakeKeepsAndChangesNothing(t *testing.T) {
	room := []int{9, 5, 9, 3, 77, 66}
	running := room[:4]
	first := snap.Take(10, running...)
	if !slices.Equal(room, []int{9, 5, 9, 3, 77, 66}) {
		t.Fatalf("written into what was handed in: %d", room)
	}
	second := snap.Take(10, running...)
	clear(room)
	first.Active[0] = 100
	_ = append(first.Active[:1], 200, 300)
	if !slices.Equal(second.Active, []int{3, 5, 9}) {
		t.Errorf("shared: %d", second.Active)
	}
	sorted := []int{1, 2, 3}
	third := snap.Take(4, sorted...)
	sorted[0] = 50
	if !slices.Equal(third.Active, []int{1, 2, 3}) {
		t.Errorf("kept what was handed in: %d", third.Active)
	}
}

// P9.2

func TestStatusIsThatOfWhoRunsFirst(t *testing.T) {
	for s := api.Unknown; s <= api.Aborted; s++ {
		v := api.View{Modulus: 18, Running: []int{18, 4, 4}, Clog: all(t, 18, s)}
		for x := 1; x <= 18; x++ {
			want := s
			if x == 4 || x == 18 {
				want = api.Running
			}
			if got := snap.Status(v, x); got != want {
				t.Errorf("Status(%d): %d, want %d", x, got, want)
			}
		}
	}
}

func TestStatusOfEachOne(t *testing.T) {
	of := map[int]api.Status{1: api.Aborted, 2: api.Committed, 511: api.Running, 512: api.Committed, 1023: api.Committed, 1024: api.Aborted}
	v := api.View{Modulus: 1024, Clog: statuses(t, 1024, of)}
	for x := 1; x <= 1024; x++ {
		if got := snap.Status(v, x); got != of[x] {
			t.Errorf("Status(%d): %d, want %d", x, got, of[x])
		}
	}
}

func TestStatusOfNoIDIsUnknown(t *testing.T) {
	v := api.View{Modulus: 16, Running: []int{4}, Clog: all(t, 16, api.Committed)}
	for _, x := range []int{math.MinInt, -16, -1, 0, 17, 32, math.MaxInt} {
		if got := snap.Status(v, x); got != api.Unknown {
			t.Errorf("Status(%d): %d", x, got)
		}
	}
}

func TestStatusOfWrongPagesIsUnknown(t *testing.T) {
	good := all(t, 16, api.Committed)
	heap := good
	heap.Kind = api.HeapPage
	short := good
	short.Items = good.Items[:1]
	for _, p := range []api.Page{{}, heap, short, all(t, 20, api.Committed)} {
		v := api.View{Modulus: 16, Running: []int{4}, Clog: p}
		if got := snap.Status(v, 1); got != api.Unknown {
			t.Errorf("Status of a page %+v: %d", p, got)
		}
		if got := snap.Status(v, 4); got != api.Running {
			t.Errorf("who runs, of a page %+v: %d", p, got)
		}
	}
	for _, m := range wrongModuli {
		v := api.View{Modulus: m, Running: []int{4}, Clog: good}
		if got := snap.Status(v, 1); got != api.Unknown {
			t.Errorf("Status of the modulus %d: %d", m, got)
		}
		if got := snap.Status(v, 4); got != api.Running {
			t.Errorf("who runs, of the modulus %d: %d", m, got)
		}
	}
}

func TestStatusIsRunningOfWhateverIsListed(t *testing.T) {
	v := api.View{Modulus: 16, Running: []int{0, -7, 99}, Clog: all(t, 16, api.Committed)}
	for _, x := range v.Running {
		if got := snap.Status(v, x); got != api.Running {
			t.Errorf("Status(%d): %d", x, got)
		}
	}
}

// P9.3

func TestSeesWhoWasDone(t *testing.T) {
	for _, m := range []int{16, 18, 1024} {
		committed := all(t, m, api.Committed)
		for _, next := range []int{1, 2, m/2 - 1, m / 2, m/2 + 1, m - 1, m} {
			v := api.View{Modulus: m, Snapshot: api.Snapshot{Next: next, Active: []int{next, max(next-1, 1)}}, Clog: committed}
			for x := 1; x <= m; x++ {
				want := ahead(m, x, next) && x != max(next-1, 1)
				if got := snap.Sees(v, x); got != want {
					t.Errorf("modulus %d, next %d: Sees(%d): %v", m, next, x, got)
				}
			}
		}
	}
}

func TestSeesHalfTheRing(t *testing.T) {
	v := api.View{Modulus: 16, Snapshot: api.Snapshot{Next: 4}, Clog: all(t, 16, api.Committed)}
	for x, want := range map[int]bool{3: true, 1: true, 16: true, 13: true, 12: false, 11: false, 5: false, 4: false} {
		if got := snap.Sees(v, x); got != want {
			t.Errorf("Sees(%d): %v", x, got)
		}
	}
}

func TestSeesNobodyWhoHasNotCommitted(t *testing.T) {
	for _, s := range []api.Status{api.Unknown, api.Running, api.Aborted} {
		v := api.View{Modulus: 16, Snapshot: api.Snapshot{Next: 9}, Clog: all(t, 16, s)}
		for x := -1; x <= 17; x++ {
			if snap.Sees(v, x) {
				t.Errorf("Sees(%d), whose status is %d", x, s)
			}
		}
	}
	v := api.View{Modulus: 16, Snapshot: api.Snapshot{Next: 9}, Running: []int{8}, Clog: all(t, 16, api.Committed)}
	if snap.Sees(v, 8) || !snap.Sees(v, 7) {
		t.Error("who runs is not seen, also if a commit is known")
	}
}

func TestSeesItsOwnWhateverItsStatus(t *testing.T) {
	for s := api.Unknown; s <= api.Aborted; s++ {
		for own := 1; own <= 16; own++ {
			v := api.View{Modulus: 16, Own: own, Snapshot: api.Snapshot{Next: 3, Active: []int{own}}, Running: []int{own}, Clog: all(t, 16, s)}
			if !snap.Sees(v, own) {
				t.Errorf("its own, %d", own)
			}
		}
	}
	if v := (api.View{Own: 77}); !snap.Sees(v, 77) || snap.Sees(v, 76) {
		t.Error("its own, of a view of nothing else")
	}
	if v := (api.View{Own: -1}); !snap.Sees(v, -1) {
		t.Error("its own is any number but 0")
	}
	if v := (api.View{}); snap.Sees(v, 0) {
		t.Error("0 is nobody's own")
	}
}

func TestSeesAsTheWordsSay(t *testing.T) {
	for _, m := range models(t) {
		for x := -1; x <= 18; x++ {
			if got, want := snap.Sees(m.view, x), m.sees(x); got != want {
				t.Fatalf("%+v: Sees(%d): %v, want %v", m.view, x, got, want)
			}
		}
	}
}

// P9.4, P9.5, P9.6

func TestVersionsAsTheWordsSay(t *testing.T) {
	for _, m := range models(t) {
		for _, tuple := range tuples() {
			if got, want := snap.Visible(m.view, tuple), m.visible(tuple); got != want {
				t.Fatalf("%+v: Visible(%+v): %v, want %v", m.view, tuple, got, want)
			}
			if got, want := snap.Newer(m.view, tuple), m.newer(tuple); got != want {
				t.Fatalf("%+v: Newer(%+v): %v, want %v", m.view, tuple, got, want)
			}
			if got, want := snap.Off(m.view, tuple), m.off(tuple); got != want {
				t.Fatalf("%+v: Off(%+v): %v, want %v", m.view, tuple, got, want)
			}
		}
	}
}

func TestVersionsAndHorizonsAsTheWordsSay(t *testing.T) {
	for i, m := range models(t) {
		if i%7 != 0 {
			continue
		}
		for horizon := -1; horizon <= 17; horizon++ {
			for _, tuple := range tuples() {
				if got, want := snap.Gone(m.view, tuple, horizon), m.gone(tuple, horizon); got != want {
					t.Fatalf("%+v: Gone(%+v, %d): %v, want %v", m.view, tuple, horizon, got, want)
				}
				if got, want := snap.Old(m.view, tuple, horizon), m.old(tuple, horizon); got != want {
					t.Fatalf("%+v: Old(%+v, %d): %v, want %v", m.view, tuple, horizon, got, want)
				}
			}
		}
	}
}

func TestAViewOfNothing(t *testing.T) {
	good := all(t, 16, api.Committed)
	views := []api.View{{}, {Modulus: 16, Snapshot: api.Snapshot{Next: 9}}}
	for _, m := range wrongModuli {
		views = append(views, api.View{Modulus: m, Snapshot: api.Snapshot{Next: 9}, Clog: good})
	}
	for _, v := range views {
		for _, tuple := range tuples() {
			if got := snap.Visible(v, tuple); got != tuple.Frozen {
				t.Errorf("%+v: Visible(%+v): %v", v, tuple, got)
			}
			if snap.Newer(v, tuple) || snap.Gone(v, tuple, 9) || snap.Old(v, tuple, 9) || snap.Off(v, tuple) {
				t.Errorf("%+v: something is known of %+v", v, tuple)
			}
		}
	}
}

func TestAViewEndsItsOwn(t *testing.T) {
	v := example(t)
	v.Own = 4
	for _, c := range []struct {
		tuple          api.Tuple
		visible, newer bool
	}{
		{api.Tuple{Xmin: 4}, true, false},
		{api.Tuple{Xmin: 4, Xmax: 4}, false, false},
		{api.Tuple{Xmin: 1, Xmax: 4}, false, false},
		{api.Tuple{Frozen: true, Xmax: 4}, false, false},
		{api.Tuple{Frozen: true, Xmin: 3}, true, false},
		{api.Tuple{Frozen: true, Xmin: 3, Xmax: 3}, true, true},
	} {
		if got := snap.Visible(v, c.tuple); got != c.visible {
			t.Errorf("Visible(%+v): %v", c.tuple, got)
		}
		if got := snap.Newer(v, c.tuple); got != c.newer {
			t.Errorf("Newer(%+v): %v", c.tuple, got)
		}
	}
}

func TestAnyXmaxButNoughtEnds(t *testing.T) {
	for _, own := range []int{math.MinInt, -1, 17, math.MaxInt} {
		v := api.View{Own: own}
		if snap.Visible(v, api.Tuple{Frozen: true, Xmax: own}) || !snap.Visible(v, api.Tuple{Frozen: true}) {
			t.Errorf("ended by its own, %d", own)
		}
	}
}

// P9.7

func TestHorizonIsTheEarliest(t *testing.T) {
	for _, c := range []struct {
		modulus, next int
		running       []int
		snaps         []api.Snapshot
		want          int
	}{
		{16, 2, nil, nil, 2},
		{16, 2, []int{}, []api.Snapshot{}, 2},
		{16, 5, []int{4}, nil, 4},
		{16, 5, []int{4, 3, 4}, nil, 3},
		{16, 2, []int{15}, nil, 15},
		{16, 2, []int{1, 16, 14, 15}, nil, 14},
		{16, 5, []int{4}, []api.Snapshot{{Next: 5, Active: []int{3}}}, 3},
		{16, 5, []int{4}, []api.Snapshot{{Next: 3}}, 3},
		{16, 5, []int{2}, []api.Snapshot{{Next: 4, Active: []int{3}}}, 2},
		{16, 5, nil, []api.Snapshot{{Next: 5}, {Next: 4}, {Next: 5, Active: []int{4, 3}}, {Next: 2}}, 2},
		{16, 5, nil, []api.Snapshot{{Next: 5}, {Next: 4, Active: []int{3, 1}}, {Next: 4, Active: []int{2}}}, 1},
		{16, 3, nil, []api.Snapshot{{Next: 1, Active: []int{14, 16}}, {Next: 16, Active: []int{13}}}, 13},
		{1024, 5, []int{1020}, []api.Snapshot{{Next: 1, Active: []int{600, 1000}}}, 600},
		{16, 8, []int{1}, nil, 1},
		{16, 9, []int{2}, nil, 2},
		{1024, 1, []int{1024, 514}, nil, 514},
	} {
		if got := snap.Horizon(c.modulus, c.next, c.running, c.snaps...); got != c.want {
			t.Errorf("Horizon(%d, %d, %d, %+v): %d, want %d", c.modulus, c.next, c.running, c.snaps, got, c.want)
		}
	}
}

func TestHorizonTakesTheFirstOfSeveral(t *testing.T) {
	for _, c := range []struct {
		next    int
		running []int
		snaps   []api.Snapshot
		want    int
	}{
		{1, []int{9}, nil, 1},
		{9, []int{1}, nil, 9},
		{9, nil, []api.Snapshot{{Next: 1, Active: []int{9}}}, 9},
		// 2 has 1 ahead of it, and that has 10 ahead of it; none is ahead of 10.
		{2, []int{10, 1}, nil, 10},
		{2, []int{1, 10}, nil, 10},
		// A number that is no id has nobody ahead of it.
		{0, []int{5}, nil, 0},
		{17, []int{5}, nil, 17},
		{5, []int{4, -1, 3}, nil, -1},
		{5, []int{0, 4, -1}, nil, 0},
		{5, []int{3, 99}, nil, 3},
		{5, []int{3}, []api.Snapshot{{}}, 3},
		{5, nil, []api.Snapshot{{Next: 0, Active: []int{3}}}, 0},
		{5, nil, []api.Snapshot{{Next: 3, Active: []int{99}}}, 3},
		{5, []int{4}, []api.Snapshot{{Next: 5, Active: []int{-3, 2}}}, -3},
		// Snapshot by snapshot: the Active of one is ahead of the Next of the one behind it.
		{5, []int{4}, []api.Snapshot{{Next: 5, Active: []int{3}}, {}}, 3},
	} {
		if got := snap.Horizon(16, c.next, c.running, c.snaps...); got != c.want {
			t.Errorf("Horizon(16, %d, %d, %+v): %d, want %d", c.next, c.running, c.snaps, got, c.want)
		}
	}
}

func TestHorizonOfAWrongModulusIsNext(t *testing.T) {
	for _, m := range wrongModuli {
		if got := snap.Horizon(m, 5, []int{4}, api.Snapshot{Next: 3, Active: []int{2}}); got != 5 {
			t.Errorf("Horizon of the modulus %d: %d", m, got)
		}
	}
}

func TestHorizonOfACircleIsNobody(t *testing.T) {
	if got := snap.Horizon(16, 1, []int{6, 11}); got != 0 {
		t.Errorf("1, 6 and 11 are ahead of each other: %d", got)
	}
}

func TestHorizonOfAllPairsAndTriples(t *testing.T) {
	for a := range 18 {
		for b := range 18 {
			for c := range 18 {
				list := []int{a, b, c}
				want := 0
				for i := len(list) - 1; i >= 0; i-- {
					if !ahead(16, a, list[i]) && !ahead(16, b, list[i]) && !ahead(16, c, list[i]) {
						want = list[i]
					}
				}
				for _, got := range []int{
					snap.Horizon(16, a, []int{b, c}),
					snap.Horizon(16, a, []int{b}, api.Snapshot{Next: c}),
					snap.Horizon(16, a, nil, api.Snapshot{Next: b, Active: []int{c}}),
				} {
					if got != want {
						t.Fatalf("Horizon of %d: %d, want %d", list, got, want)
					}
				}
			}
		}
	}
}

// R2

func TestNothingIsWrittenInto(t *testing.T) {
	fresh := func() (api.View, []int) {
		v := example(t)
		v.Snapshot.Active = append(make([]int, 0, 8), 3, 1, 3)
		v.Running = append(make([]int, 0, 8), 6, 4, 5)
		return v, append(make([]int, 0, 8), 9, 8, 9, 7)
	}
	v, running := fresh()
	want, wantRunning := fresh()
	for _, tuple := range tuples() {
		snap.Visible(v, tuple)
		snap.Newer(v, tuple)
		snap.Gone(v, tuple, 4)
		snap.Old(v, tuple, 4)
		snap.Off(v, tuple)
	}
	snap.Horizon(16, 10, running, v.Snapshot, v.Snapshot)
	snap.Horizon(16, 10, running[:1], v.Snapshot)
	if !reflect.DeepEqual(v, want) || !slices.Equal(running, wantRunning) {
		t.Errorf("changed: %+v, %d", v, running)
	}
	for _, list := range [][]int{v.Snapshot.Active, v.Running, running} {
		if tail := list[len(list):cap(list)]; slices.Max(tail) != 0 || slices.Min(tail) != 0 {
			t.Errorf("written behind the length: %d", tail)
		}
	}
}

// P9.8

func TestWhatIsNeitherNewerNorVisible(t *testing.T) {
	for _, m := range models(t) {
		for _, tuple := range tuples() {
			if snap.Newer(m.view, tuple) || snap.Visible(m.view, tuple) {
				continue
			}
			made := !tuple.Frozen && m.is(tuple.Xmin, api.Committed) && !m.sees(tuple.Xmin)
			ended := tuple.Xmax != 0 && m.is(tuple.Xmax, api.Committed) && !m.sees(tuple.Xmax)
			if made || ended {
				t.Fatalf("%+v: somebody has changed %+v since", m.view, tuple)
			}
		}
	}
}

func TestOfTwoVersionsTheOtherOne(t *testing.T) {
	for _, m := range models(t) {
		for maker := 1; maker <= 16; maker++ {
			for changer := 1; changer <= 16; changer++ {
				if !snap.Sees(m.view, maker) || !snap.Sees(m.view, changer) {
					continue
				}
				ended, other := api.Tuple{Xmin: maker, Xmax: changer}, api.Tuple{Xmin: changer}
				if snap.Visible(m.view, ended) || !snap.Visible(m.view, other) {
					t.Fatalf("%+v: %d ended by %d", m.view, maker, changer)
				}
			}
		}
	}
}

// client is a transaction of a history: its view's parts, and what it must read.
type client struct {
	snapshot api.Snapshot
	own      int
	reads    map[string]string
	wrote    map[string]string
}

// history is transactions on versions of keys, beside a model of what each one reads.
type history struct {
	t         *testing.T
	modulus   int
	counter   *xid.Counter
	page      api.Page
	versions  []api.Tuple
	committed map[string]string
	open      []*client
	seed      uint32
	taken     int
	conflicts int
	swept     int
}

// pick is a number below n, each time another one.
func (h *history) pick(n int) int {
	h.seed = h.seed*1664525 + 1013904223
	return int(h.seed>>16) % n
}

func (h *history) running() []int {
	var list []int
	for _, c := range h.open {
		if c.own != 0 {
			list = append(list, c.own)
		}
	}
	return list
}

func (h *history) view(c *client) api.View {
	return api.View{Modulus: h.modulus, Snapshot: c.snapshot, Own: c.own, Running: h.running(), Clog: h.page}
}

func (h *history) begin() {
	c := &client{snapshot: snap.Take(h.counter.Next(), h.running()...), reads: map[string]string{}, wrote: map[string]string{}}
	for k, v := range h.committed {
		c.reads[k] = v
	}
	h.open = append(h.open, c)
}

// end is a commit or an abort.
func (h *history) end(i int, s api.Status) {
	c := h.open[i]
	h.open = slices.Delete(h.open, i, i+1)
	if c.own == 0 {
		return
	}
	p, err := clog.Set(h.modulus, h.page, c.own, s)
	if err != api.OK {
		h.t.Fatal(err)
	}
	h.page = p
	if s != api.Committed {
		return
	}
	for k, v := range c.wrote {
		if v == "" {
			delete(h.committed, k)
		} else {
			h.committed[k] = v
		}
	}
}

// held tells whether another open transaction has changed a key.
func (h *history) held(c *client, key string) bool {
	for _, other := range h.open {
		if _, ok := other.wrote[key]; ok && other != c {
			return true
		}
	}
	return false
}

// write gives a key another value, or none, if the value is empty; it tells whether there was a conflict.
func (h *history) write(c *client, key, value string) bool {
	if h.held(c, key) || c.own == 0 && h.counter.Left() == 0 {
		return false
	}
	v := h.view(c)
	for _, t := range h.versions {
		if t.Key == key && snap.Newer(v, t) {
			return true
		}
	}
	if c.own == 0 {
		c.own, _ = h.counter.Take()
		h.taken++
	}
	for i, t := range h.versions {
		if t.Key == key && snap.Visible(v, t) {
			h.versions[i].Xmax = c.own
		}
	}
	c.wrote[key] = value
	delete(c.reads, key)
	if value != "" {
		c.reads[key] = value
		h.versions = append(h.versions, api.Tuple{Xmin: c.own, Key: key, Value: value})
	}
	return false
}

// sweep takes out what is Gone, freezes what is Old, takes off ends, and lets the ids ahead of the horizon be given again.
func (h *history) sweep() {
	v := api.View{Modulus: h.modulus, Running: h.running(), Clog: h.page}
	var snaps []api.Snapshot
	for _, c := range h.open {
		snaps = append(snaps, c.snapshot)
	}
	horizon := snap.Horizon(h.modulus, h.counter.Next(), h.running(), snaps...)
	var left []api.Tuple
	for _, t := range h.versions {
		if snap.Gone(v, t, horizon) {
			h.visibleToNobody(t)
			h.swept++
			continue
		}
		if snap.Off(v, t) {
			t.Xmax = 0
		}
		if snap.Old(v, t, horizon) {
			t.Frozen = true
		}
		left = append(left, t)
	}
	h.versions = left
	p, err := clog.Cut(h.modulus, h.page, horizon)
	if err != api.OK {
		h.t.Fatal(err)
	}
	h.page = p
	if err := h.counter.Freeze(horizon); err != api.OK {
		h.t.Fatal(err)
	}
}

func (h *history) visibleToNobody(t api.Tuple) {
	for _, c := range h.open {
		if snap.Visible(h.view(c), t) {
			h.t.Fatalf("%+v is Gone, and visible to %+v", t, c)
		}
	}
}

// reads holds what each open transaction sees against what it must read.
func (h *history) reads() {
	for _, c := range h.open {
		v := h.view(c)
		got := map[string]string{}
		for _, t := range h.versions {
			if !snap.Visible(v, t) {
				continue
			}
			if _, ok := got[t.Key]; ok {
				h.t.Fatalf("two versions of %s are visible to %+v", t.Key, v)
			}
			got[t.Key] = t.Value
		}
		if !reflect.DeepEqual(got, c.reads) {
			h.t.Fatalf("%+v reads %v, not %v", v, got, c.reads)
		}
	}
}

func (h *history) step(n int) {
	what := h.pick(12)
	if len(h.open) == 0 || len(h.open) < 5 && what == 0 {
		h.begin()
		return
	}
	i := h.pick(len(h.open))
	switch {
	case what == 1:
		h.end(i, api.Committed)
	case what == 2:
		h.end(i, api.Aborted)
	case what == 3:
		h.sweep()
	default:
		key, value := string(rune('a'+h.pick(4))), string(rune('A'+n%26))
		if h.pick(3) == 0 {
			value = ""
		}
		if h.write(h.open[i], key, value) {
			h.conflicts++
			h.end(i, api.Aborted)
		}
	}
}

func TestHistoriesGoRoundTheRing(t *testing.T) {
	for seed := range 40 {
		modulus := 16 + 2*(seed%3)
		counter, err := xid.New(modulus, 1, 1)
		if err != api.OK {
			t.Fatal(err)
		}
		h := &history{t: t, modulus: modulus, counter: counter, page: statuses(t, modulus, nil), committed: map[string]string{}, seed: uint32(seed)}
		for n := range 3000 {
			h.step(n)
			h.reads()
		}
		if h.taken < 5*modulus || h.conflicts < 10 || h.swept < 50 {
			t.Errorf("a history that shows little: %d ids, %d conflicts, %d swept", h.taken, h.conflicts, h.swept)
		}
	}
}

// Examples

func TestExamples(t *testing.T) {
	v := example(t)
	if got := snap.Take(4, 3, 1, 3); got.Next != 4 || !slices.Equal(got.Active, []int{1, 3}) {
		t.Errorf("Take: %+v", got)
	}
	for x, want := range map[int]api.Status{1: api.Committed, 2: api.Aborted, 4: api.Running, 5: api.Unknown, 0: api.Unknown} {
		if got := snap.Status(v, x); got != want {
			t.Errorf("Status(%d): %d", x, got)
		}
	}
	own := v
	own.Own = 4
	yes := map[string]bool{
		"Sees 1":                   snap.Sees(v, 1),
		"Sees 4 of Own 4":          snap.Sees(own, 4),
		"Visible 1":                snap.Visible(v, api.Tuple{Xmin: 1}),
		"Visible 1, 3":             snap.Visible(v, api.Tuple{Xmin: 1, Xmax: 3}),
		"Visible 1, 2":             snap.Visible(v, api.Tuple{Xmin: 1, Xmax: 2}),
		"Visible frozen":           snap.Visible(v, api.Tuple{Frozen: true, Xmin: 9}),
		"Newer 1, 3":               snap.Newer(v, api.Tuple{Xmin: 1, Xmax: 3}),
		"Newer 3":                  snap.Newer(v, api.Tuple{Xmin: 3}),
		"Gone 2, horizon 4":        snap.Gone(v, api.Tuple{Xmin: 2}, 4),
		"Gone 1, 3, horizon 4":     snap.Gone(v, api.Tuple{Xmin: 1, Xmax: 3}, 4),
		"Off 1, 2":                 snap.Off(v, api.Tuple{Xmin: 1, Xmax: 2}),
		"Old 1, horizon 3":         snap.Old(v, api.Tuple{Xmin: 1}, 3),
		"not Sees 3":               !snap.Sees(v, 3),
		"not Sees 4":               !snap.Sees(v, 4),
		"not Visible 2":            !snap.Visible(v, api.Tuple{Xmin: 2}),
		"not Newer 1, 4":           !snap.Newer(v, api.Tuple{Xmin: 1, Xmax: 4}),
		"not Gone 1, 3, horizon 3": !snap.Gone(v, api.Tuple{Xmin: 1, Xmax: 3}, 3),
	}
	for what, holds := range yes {
		if !holds {
			t.Error(what)
		}
	}
	if got := snap.Horizon(16, 5, []int{4}, api.Snapshot{Next: 5, Active: []int{3}}); got != 3 {
		t.Errorf("Horizon: %d", got)
	}
}
