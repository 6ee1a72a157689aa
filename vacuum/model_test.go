package vacuum_test

import (
	"math/rand"
	"slices"
	"testing"

	"almonry/api"
	"almonry/apply"
	"almonry/tuple"
	"almonry/vacuum"
)

// A second reading of P20.1, and the first half of P20.3, over all versions of the modulus 16.

// ahead is chapter 7's Before, told by walking.
func ahead(modulus, a, b int) bool {
	if a < 1 || a > modulus || b < 1 || b > modulus {
		return false
	}
	for range modulus/2 - 1 {
		a = a%modulus + 1
		if a == b {
			return true
		}
	}
	return false
}

// world is a view whose statuses are written out.
type world struct {
	view api.View
	of   map[int]api.Status
}

func (w world) is(x int, s api.Status) bool {
	if slices.Contains(w.view.Running, x) {
		return s == api.Running
	}
	return w.of[x] == s
}

// past tells whether x has committed, ahead of the horizon.
func (w world) past(x, horizon int) bool {
	return w.is(x, api.Committed) && ahead(w.view.Modulus, x, horizon)
}

// sort is what P20.1 says of versions that stand in the slots from 0 on; of noughts: a dead slot of key d.
func (w world) sort(horizon, number int, versions []api.Tuple) api.Work {
	var work api.Work
	for slot, v := range versions {
		if v == (api.Tuple{}) {
			work.Gone = append(work.Gone, api.Entry{Key: "d", Page: number, Slot: slot})
			continue
		}
		aborted := !v.Frozen && w.is(v.Xmin, api.Aborted)
		over := v.Xmax != 0 && w.past(v.Xmax, horizon)
		if aborted || over {
			work.Gone = append(work.Gone, api.Entry{Key: v.Key, Page: number, Slot: slot})
			continue
		}
		if !v.Frozen && w.past(v.Xmin, horizon) {
			work.Freeze = append(work.Freeze, slot)
		}
		if v.Xmax != 0 && w.is(v.Xmax, api.Aborted) {
			work.Off = append(work.Off, slot)
		}
	}
	return work
}

// worlds have transactions of all sorts, some of which run.
func worlds(modulus, n int) []world {
	r := rand.New(rand.NewSource(20))
	var list []world
	for range n {
		of := map[int]api.Status{}
		for x := 1; x <= modulus; x++ {
			of[x] = []api.Status{api.Unknown, api.Running, api.Committed, api.Committed, api.Aborted, api.Aborted}[r.Intn(6)]
		}
		v := api.View{Modulus: modulus, Clog: statuses(modulus, of), Own: r.Intn(modulus + 1)}
		v.Snapshot = api.Snapshot{Next: 1 + r.Intn(modulus), Active: []int{1 + r.Intn(modulus)}}
		for range r.Intn(4) {
			v.Running = append(v.Running, 1+r.Intn(modulus))
		}
		list = append(list, world{v, of})
	}
	return list
}

// pages are all pairs of who made and who ended a version, 34 on a page, with a dead slot each.
func pages(modulus int) [][]api.Tuple {
	var list [][]api.Tuple
	for xmin := 1; xmin <= modulus+1; xmin++ {
		var p []api.Tuple
		for xmax := 0; xmax <= modulus+1; xmax++ {
			key := string(rune('a' + (xmin+xmax)%3))
			p = append(p, api.Tuple{Xmin: xmin, Xmax: xmax, Key: key}, api.Tuple{Xmin: xmin, Xmax: xmax, Frozen: true, Key: key})
		}
		list = append(list, slices.Insert(p, xmin, api.Tuple{}))
	}
	return list
}

func laid(versions []api.Tuple) api.Page {
	p := heapPage()
	for _, v := range versions {
		if v == (api.Tuple{}) {
			p.Items = append(p.Items, deadOf("d"))
		} else {
			p.Items = append(p.Items, bytesOf(v))
		}
	}
	return p
}

func TestSortAsTheWordsSay(t *testing.T) {
	for _, versions := range pages(16) {
		p := laid(versions)
		for _, w := range worlds(16, 12) {
			for horizon := -1; horizon <= 17; horizon++ {
				got, want := vacuum.Sort(w.view, horizon, 7, p), w.sort(horizon, 7, versions)
				if !sameWork(got, want) {
					t.Fatalf("Sort(%+v, %d) of %+v: %+v, want %+v", w.view, horizon, versions, got, want)
				}
			}
		}
	}
}

// done is a page behind a record of page 7, which must be one that can be done.
func done(t *testing.T, p api.Page, r api.Record, ok bool) api.Page {
	t.Helper()
	if !ok {
		return p
	}
	r.LSN = p.LSN + 1
	got, err := apply.Do(16, p, 7, r)
	if err != api.OK || got.LSN != r.LSN {
		t.Fatalf("Do(%+v, %+v): %+v %v", p, r, got, err)
	}
	return got
}

// doneWith is done of what Freeze or Clean answers.
func doneWith(t *testing.T, p api.Page, answer func(int, api.Work) (api.Record, bool), w api.Work) api.Page {
	t.Helper()
	r, ok := answer(7, w)
	return done(t, p, r, ok)
}

// P20.3

func TestSortFindsNothingBehindIt(t *testing.T) {
	for _, versions := range pages(16) {
		p := laid(versions)
		for _, w := range worlds(16, 12) {
			for horizon := 1; horizon <= 16; horizon++ {
				found := vacuum.Sort(w.view, horizon, 7, p)
				frozen := doneWith(t, p, vacuum.Freeze, found)
				sorts(t, w.view, horizon, 7, frozen, api.Work{Gone: found.Gone})
				cleaned := doneWith(t, p, vacuum.Clean, found)
				sorts(t, w.view, horizon, 7, cleaned, api.Work{Freeze: found.Freeze, Off: found.Off})
				sorts(t, w.view, horizon, 7, doneWith(t, frozen, vacuum.Clean, found), api.Work{})
				sorts(t, w.view, horizon, 7, doneWith(t, cleaned, vacuum.Freeze, found), api.Work{})
				if t.Failed() {
					t.FailNow()
				}
			}
		}
	}
}

// What is of none of the lists stands as it did; what is of one is changed by just that.
func TestOnlyWhatIsFoundIsChanged(t *testing.T) {
	for _, versions := range pages(16) {
		p := laid(versions)
		for _, w := range worlds(16, 4) {
			found := vacuum.Sort(w.view, 9, 7, p)
			want := slices.Clone(versions)
			for _, slot := range found.Freeze {
				want[slot].Frozen = true
			}
			for _, slot := range found.Off {
				want[slot].Xmax = 0
			}
			after := laid(want)
			for _, e := range found.Gone {
				after.Items[e.Slot] = tuple.Free()
			}
			got := doneWith(t, doneWith(t, p, vacuum.Freeze, found), vacuum.Clean, found)
			if !slices.Equal(got.Items, after.Items) {
				t.Fatalf("%q, want %q", got.Items, after.Items)
			}
		}
	}
}
