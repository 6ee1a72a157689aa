package restart_test

import (
	"math"
	"reflect"
	"slices"
	"testing"

	"almonry/api"
	"almonry/restart"
)

// noCheckpoint is a control block of a log from 1 on.
var noCheckpoint = api.Control{Start: 1}

// farNumbers are no ids, no pages and no places.
var farNumbers = []int{math.MinInt, math.MinInt + 1, -1 << 32, -1, 0, 1 << 32, 1 << 62, math.MaxInt - 1, math.MaxInt}

func since(check int) api.Control { return api.Control{Start: 1, Check: check} }

func insert(lsn, xid, prev int) api.Record {
	return api.Record{LSN: lsn, Kind: api.Insert, Xid: xid, Prev: prev}
}

func mark(lsn, xid, prev int) api.Record {
	return api.Record{LSN: lsn, Kind: api.Mark, Xid: xid, Prev: prev}
}

func undo(lsn, xid, prev, next int) api.Record {
	return api.Record{LSN: lsn, Kind: api.Undo, Xid: xid, Prev: prev, Next: next}
}

func commits(lsn, xid, prev int) api.Record {
	return api.Record{LSN: lsn, Kind: api.Commited, Xid: xid, Prev: prev}
}

func rollsBack(lsn, xid, prev int) api.Record {
	return api.Record{LSN: lsn, Kind: api.RolledBack, Xid: xid, Prev: prev}
}

func cut(lsn, limit int) api.Record { return api.Record{LSN: lsn, Kind: api.Cut, New: limit} }

func checkpoint(lsn, redo, xid, page, frozen int) api.Record {
	return api.Record{LSN: lsn, Kind: api.Check, Redo: redo, Xid: xid, New: page, Old: frozen}
}

// images is a record of a kind that is no transaction's, with images of these pages.
func images(lsn int, pages ...int) api.Record {
	r := api.Record{LSN: lsn, Kind: api.Make}
	for _, page := range pages {
		r.Images = append(r.Images, api.Image{Page: page, Body: api.Page{Kind: api.HeapPage}})
	}
	return r
}

// transactionKinds are the kinds of a transaction's records.
func transactionKinds() []api.Kind {
	return []api.Kind{api.Insert, api.Mark, api.Undo, api.Commited, api.RolledBack}
}

// otherKinds are all other ones, and some that are none.
func otherKinds() []api.Kind {
	return []api.Kind{0, api.EntryIn, api.EntryOut, api.Split, api.Clean, api.Freeze, api.Cut, api.Check, api.Make, 14, 255}
}

func same(a, b api.Found) bool {
	return a.Redo == b.Redo && a.Xid == b.Xid && a.Page == b.Page && a.Frozen == b.Frozen && a.Undoes == b.Undoes &&
		slices.Equal(a.Losers, b.Losers)
}

func finds(t *testing.T, modulus int, c api.Control, want api.Found, records ...api.Record) {
	t.Helper()
	if f := restart.Find(modulus, c, records...); !same(f, want) {
		t.Errorf("Find(%d, %+v, %+v): %+v, want %+v", modulus, c, records, f, want)
	}
}

// loses asks who has lost, and how much of that is to be undone.
func loses(t *testing.T, records []api.Record, undoes int, want ...api.Begun) {
	t.Helper()
	f := restart.Find(16, noCheckpoint, records...)
	if !slices.Equal(f.Losers, want) || f.Undoes != undoes {
		t.Errorf("Find(%+v): losers %v with %d to be undone, want %v with %d", records, f.Losers, f.Undoes, want, undoes)
	}
}

func nextID(t *testing.T, modulus int, c api.Control, want int, records ...api.Record) {
	t.Helper()
	if f := restart.Find(modulus, c, records...); f.Xid != want {
		t.Errorf("Find(%d, %+v, %+v): next id %d, want %d", modulus, c, records, f.Xid, want)
	}
}

func nextPage(t *testing.T, c api.Control, want int, records ...api.Record) {
	t.Helper()
	if f := restart.Find(16, c, records...); f.Page != want {
		t.Errorf("Find(%+v, %+v): next page %d, want %d", c, records, f.Page, want)
	}
}

func frozen(t *testing.T, c api.Control, want int, records ...api.Record) {
	t.Helper()
	if f := restart.Find(16, c, records...); f.Frozen != want {
		t.Errorf("Find(%+v, %+v): frozen limit %d, want %d", c, records, f.Frozen, want)
	}
}

func tells(t *testing.T, losers []api.Begun, want int) {
	t.Helper()
	if n, ok := restart.Next(losers); n != want || ok != (want > 0) {
		t.Errorf("Next(%v): %d %v, want %d", losers, n, ok, want)
	}
}

func leaves(t *testing.T, losers []api.Begun, at, next int, want ...api.Begun) {
	t.Helper()
	if list := restart.Undone(losers, at, next); !slices.Equal(list, want) {
		t.Errorf("Undone(%v, %d, %d): %v, want %v", losers, at, next, list, want)
	}
}

func TestExamples(t *testing.T) {
	records := []api.Record{insert(1, 3, 0), insert(50, 4, 0), mark(90, 3, 1), commits(120, 4, 50), undo(150, 3, 90, 1)}
	finds(t, 16, noCheckpoint, api.Found{Redo: 1, Xid: 5, Page: 2, Frozen: 1, Losers: []api.Begun{{Xid: 3, Last: 1}}, Undoes: 1}, records...)
	losers := restart.Find(16, noCheckpoint, records...).Losers
	tells(t, losers, 1)
	leaves(t, losers, 1, 0, api.Begun{Xid: 3})
	tells(t, restart.Undone(losers, 1, 0), 0)
}

// P21.1, Redo and the checkpoint

func TestFindOfNoRecords(t *testing.T) {
	for _, n := range append([]int{1, 90}, farNumbers...) {
		finds(t, 16, api.Control{Start: n}, api.Found{Redo: n, Xid: 1, Page: 2, Frozen: 1})
		finds(t, 16, api.Control{Start: 5, Check: n}, api.Found{Redo: 5, Xid: 1, Page: 2, Frozen: 1})
		finds(t, n, api.Control{Start: 5}, api.Found{Redo: 5, Xid: 1, Page: 2, Frozen: 1})
	}
}

func TestCheckpointTellsAsItStands(t *testing.T) {
	for _, n := range append([]int{1, 2, 7, 16, 65535, 65536}, farNumbers...) {
		finds(t, 16, since(9), api.Found{Redo: n, Xid: 5, Page: 3, Frozen: 4}, checkpoint(9, n, 5, 3, 4))
		finds(t, 16, since(9), api.Found{Redo: 7, Xid: n, Page: 3, Frozen: 4}, checkpoint(9, 7, n, 3, 4))
		finds(t, 16, since(9), api.Found{Redo: 7, Xid: 5, Page: n, Frozen: 4}, checkpoint(9, 7, 5, n, 4))
		finds(t, 16, since(9), api.Found{Redo: 7, Xid: 5, Page: 3, Frozen: n}, checkpoint(9, 7, 5, 3, n))
	}
}

func TestCheckpointIsTheControlBlocks(t *testing.T) {
	records := []api.Record{checkpoint(10, 2, 3, 4, 5), checkpoint(60, 6, 7, 8, 9), insert(100, 0, 0), checkpoint(110, 10, 11, 12, 13)}
	finds(t, 16, since(10), api.Found{Redo: 2, Xid: 3, Page: 4, Frozen: 5}, records...)
	finds(t, 16, since(60), api.Found{Redo: 6, Xid: 7, Page: 8, Frozen: 9}, records...)
	finds(t, 16, since(110), api.Found{Redo: 10, Xid: 11, Page: 12, Frozen: 13}, records...)
	for _, c := range []int{9, 11, 59, 61, 100, 109, 111} {
		finds(t, 16, since(c), api.Found{Redo: 1, Xid: 1, Page: 2, Frozen: 1}, records...)
	}
}

func TestCheckpointIsOfTheKindCheck(t *testing.T) {
	for _, kind := range append(otherKinds(), transactionKinds()...) {
		if kind == api.Check || kind == api.Cut {
			continue
		}
		r := checkpoint(9, 7, 5, 3, 4)
		r.Kind = kind
		if f := restart.Find(16, since(9), r); f.Redo != 1 || f.Page != 2 || f.Frozen != 1 {
			t.Errorf("kind %d: taken as the checkpoint: %+v", kind, f)
		}
	}
}

func TestCheckpointStandsAboveNought(t *testing.T) {
	for _, n := range []int{0, -1, math.MinInt} {
		finds(t, 16, since(n), api.Found{Redo: 1, Xid: 1, Page: 2, Frozen: 1}, checkpoint(n, 7, 5, 3, 4))
	}
	finds(t, 16, since(1), api.Found{Redo: 7, Xid: 5, Page: 3, Frozen: 4}, checkpoint(1, 7, 5, 3, 4))
	finds(t, 16, since(math.MaxInt), api.Found{Redo: 7, Xid: 5, Page: 3, Frozen: 4}, checkpoint(math.MaxInt, 7, 5, 3, 4))
}

func TestFirstSuchRecordIsTheCheckpoint(t *testing.T) {
	finds(t, 16, since(9), api.Found{Redo: 7, Xid: 5, Page: 3, Frozen: 4}, checkpoint(9, 7, 5, 3, 4), checkpoint(9, 6, 4, 2, 3))
	finds(t, 16, since(9), api.Found{Redo: 7, Xid: 5, Page: 3, Frozen: 4}, images(9), checkpoint(9, 7, 5, 3, 4), checkpoint(9, 6, 4, 2, 3))
}

// What a checkpoint says of pages and transactions, a restart reads off the records.
func TestListsOfTheCheckpointAreNotAsked(t *testing.T) {
	r := checkpoint(9, 7, 5, 3, 4)
	r.Pages = []api.Owed{{Page: 60, LSN: 2}}
	r.Txns = []api.Begun{{Xid: 9, Last: 3}}
	r.Slots, r.More = []int{11}, []int{12}
	finds(t, 16, since(9), api.Found{Redo: 7, Xid: 5, Page: 3, Frozen: 4}, r)
}

// P21.1, Xid

func TestXidIsBehindEachKindOfATransactionsRecord(t *testing.T) {
	for _, kind := range transactionKinds() {
		nextID(t, 16, noCheckpoint, 4, api.Record{LSN: 1, Kind: kind, Xid: 3})
	}
	for _, kind := range otherKinds() {
		nextID(t, 16, noCheckpoint, 1, api.Record{LSN: 1, Kind: kind, Xid: 3})
	}
}

func TestXidOfEachIdBehindACheckpoint(t *testing.T) {
	for _, modulus := range []int{16, 18, 300, 1024} {
		for next := 1; next <= modulus; next += 1 + modulus/50 {
			for gap := range modulus {
				id := (next+gap-1)%modulus + 1
				want := next
				// Half the ring less 1 is behind next; next itself and the half behind it have been given since.
				if gap <= modulus/2 {
					want = id%modulus + 1
				}
				nextID(t, modulus, since(1), want, checkpoint(1, 1, next, 2, 1), insert(9, id, 0))
			}
		}
	}
}

func TestXidOfNoIds(t *testing.T) {
	for _, id := range farNumbers {
		want := 0
		if id <= 0 {
			want = 1
		}
		nextID(t, 16, noCheckpoint, want, insert(1, id, 0))
	}
	nextID(t, 16, noCheckpoint, 1, insert(1, 16, 0), insert(9, 10, 0))
	nextID(t, 16, noCheckpoint, 10, insert(1, 16, 0), insert(9, 9, 0))
	nextID(t, 16, noCheckpoint, 0, insert(1, 17, 0))
	nextID(t, 16, noCheckpoint, 6, insert(1, 17, 0), insert(9, 5, 0))
	nextID(t, 16, noCheckpoint, 0, insert(1, 5, 0), insert(9, 17, 0))
}

func TestXidOfNoModulus(t *testing.T) {
	for _, modulus := range append([]int{1, 2, 14, 15, 17, 1023, 1025, 1026}, farNumbers...) {
		nextID(t, modulus, noCheckpoint, 0, insert(1, 1, 0))
		nextID(t, modulus, noCheckpoint, 1, cut(1, 4))
		nextID(t, modulus, since(1), 7, checkpoint(1, 1, 7, 2, 1))
		nextID(t, modulus, since(1), 0, checkpoint(1, 1, 7, 2, 1), insert(9, 3, 0))
	}
}

func TestXidOfEachCut(t *testing.T) {
	for _, modulus := range []int{16, 18, 300, 1024} {
		for next := 1; next <= modulus; next += 1 + modulus/50 {
			for gap := range modulus {
				limit := (next+gap-1)%modulus + 1
				want := next
				if gap <= modulus/2-1 {
					want = limit
				}
				nextID(t, modulus, since(1), want, checkpoint(1, 1, next, 2, 1), cut(9, limit))
			}
		}
	}
}

func TestXidOfACutThatIsNoId(t *testing.T) {
	for _, limit := range append([]int{17, 1025}, farNumbers...) {
		nextID(t, 16, since(1), 15, checkpoint(1, 1, 15, 2, 1), cut(9, limit))
	}
}

// A New is that of a Cut alone, and its Xid is no transaction's.
func TestXidAsksACutsNewAlone(t *testing.T) {
	for _, kind := range slices.Concat(otherKinds(), transactionKinds()) {
		if kind != api.Cut {
			nextID(t, 16, noCheckpoint, 1, api.Record{LSN: 1, Kind: kind, New: 5})
		}
	}
	nextID(t, 16, noCheckpoint, 5, api.Record{LSN: 1, Kind: api.Cut, New: 5, Xid: 7, Old: 6, Redo: 8})
}

func TestXidGoesRecordByRecord(t *testing.T) {
	nextID(t, 16, noCheckpoint, 12, cut(1, 7), insert(9, 11, 0))
	nextID(t, 16, noCheckpoint, 7, insert(1, 11, 0), cut(9, 7))
	nextID(t, 16, noCheckpoint, 7, insert(1, 2, 0), cut(9, 7))
	nextID(t, 16, noCheckpoint, 6, insert(1, 5, 0), insert(9, 3, 0))
	nextID(t, 16, noCheckpoint, 3, insert(1, 5, 0), insert(9, 10, 0), insert(20, 16, 0), insert(30, 2, 0), commits(40, 16, 20))
	nextID(t, 16, since(1), 2, checkpoint(1, 1, 15, 2, 12), insert(9, 16, 0), insert(20, 1, 0))
}

func TestXidIsOfTheRecordsFromTheCheckpointOnAlone(t *testing.T) {
	nextID(t, 16, since(30), 3, insert(1, 5, 0), cut(20, 8), checkpoint(30, 1, 3, 2, 1))
	nextID(t, 16, since(30), 4, insert(1, 5, 0), cut(20, 8), checkpoint(30, 1, 3, 2, 1), insert(40, 3, 0))
	nextID(t, 16, since(30), 9, insert(1, 5, 0), checkpoint(30, 1, 3, 2, 1), cut(40, 8), insert(50, 8, 0))
	nextID(t, 16, since(31), 9, insert(1, 5, 0), cut(20, 8), checkpoint(30, 1, 3, 2, 1), insert(40, 8, 0))
}

// P21.1, Page

func TestPageIsBehindEachImage(t *testing.T) {
	for _, kind := range slices.Concat(otherKinds(), transactionKinds()) {
		r := images(1, 7)
		r.Kind = kind
		nextPage(t, noCheckpoint, 8, r)
	}
	nextPage(t, noCheckpoint, 10, images(1, 4, 9, 5), images(50, 8))
	nextPage(t, noCheckpoint, 10, images(1, 9), images(50, 9, 3))
}

func TestPageOfEachImageBehindACheckpoint(t *testing.T) {
	for next := 0; next <= 12; next++ {
		for page := 0; page <= 14; page++ {
			want := next
			if page >= next {
				want = page + 1
			}
			nextPage(t, since(1), want, checkpoint(1, 1, 1, next, 1), images(9, page))
		}
	}
}

func TestPageIsAtMostOneBehindTheLast(t *testing.T) {
	nextPage(t, noCheckpoint, 65535, images(1, 65534))
	nextPage(t, noCheckpoint, 65536, images(1, 65535))
	nextPage(t, noCheckpoint, 65536, images(1, 65535, 65535, 65536))
	nextPage(t, noCheckpoint, 2, images(1, 65536))
	nextPage(t, noCheckpoint, 6, images(1, 65536, 5, 1<<62))
	nextPage(t, since(1), 65535, checkpoint(1, 1, 1, 65535, 1), images(9, 65534))
	nextPage(t, since(1), 65536, checkpoint(1, 1, 1, 65535, 1), images(9, 65535))
	nextPage(t, since(1), 65536, checkpoint(1, 1, 1, 65536, 1), images(9, 65535, 65536, 65537))
}

func TestPageOfOddNumbers(t *testing.T) {
	for _, page := range farNumbers {
		nextPage(t, noCheckpoint, 2, images(1, page))
	}
	nextPage(t, noCheckpoint, 2, images(1, 0, 1))
	nextPage(t, noCheckpoint, 3, images(1, 2))
	nextPage(t, since(1), -2, checkpoint(1, 1, 1, -5, 1), images(9, -3, -6))
	nextPage(t, since(1), math.MinInt+1, checkpoint(1, 1, 1, math.MinInt, 1), images(9, math.MinInt))
}

// The page that a record names is no new one; only its images make pages.
func TestPageAsksTheImagesAlone(t *testing.T) {
	for _, kind := range slices.Concat(otherKinds(), transactionKinds()) {
		nextPage(t, noCheckpoint, 2, api.Record{LSN: 1, Kind: kind, Page: 9, Slots: []int{10}, Pages: []api.Owed{{Page: 11}}})
	}
}

func TestPageIsOfTheRecordsFromTheCheckpointOnAlone(t *testing.T) {
	nextPage(t, since(30), 4, images(1, 9), checkpoint(30, 1, 1, 4, 1), images(40, 3))
	nextPage(t, since(30), 7, images(1, 9), checkpoint(30, 1, 1, 4, 1), images(40, 6))
	nextPage(t, since(31), 10, images(1, 9), checkpoint(30, 1, 1, 4, 1), images(40, 3))
	r := checkpoint(30, 1, 1, 4, 1)
	r.Images = images(0, 5).Images
	nextPage(t, since(30), 6, images(1, 9), r)
}

// P21.1, Frozen

func TestFrozenIsTheLastCuts(t *testing.T) {
	frozen(t, noCheckpoint, 4, cut(1, 4))
	frozen(t, noCheckpoint, 3, cut(1, 4), cut(9, 5), cut(20, 3))
	for _, n := range append([]int{17, 1025}, farNumbers...) {
		frozen(t, noCheckpoint, n, cut(1, 4), cut(9, n))
	}
	for _, kind := range slices.Concat(otherKinds(), transactionKinds()) {
		if kind != api.Cut {
			frozen(t, noCheckpoint, 1, api.Record{LSN: 1, Kind: kind, New: 5, Old: 6})
		}
	}
}

func TestFrozenIsOfTheRecordsFromTheCheckpointOnAlone(t *testing.T) {
	frozen(t, since(30), 2, cut(1, 4), checkpoint(30, 1, 1, 2, 2))
	frozen(t, since(30), 6, cut(1, 4), checkpoint(30, 1, 1, 2, 2), cut(40, 6))
	frozen(t, since(31), 4, cut(1, 4), checkpoint(30, 1, 1, 2, 2))
}

// P21.1, Losers

func TestLosersAreWhoHasNotEnded(t *testing.T) {
	loses(t, []api.Record{insert(1, 3, 0)}, 1, api.Begun{Xid: 3, Last: 1})
	loses(t, []api.Record{mark(1, 3, 0)}, 1, api.Begun{Xid: 3, Last: 1})
	loses(t, []api.Record{insert(1, 3, 0), mark(9, 3, 1)}, 2, api.Begun{Xid: 3, Last: 9})
	loses(t, []api.Record{insert(1, 3, 0), commits(9, 3, 1)}, 0)
	loses(t, []api.Record{insert(1, 3, 0), rollsBack(9, 3, 1)}, 0)
	loses(t, []api.Record{commits(9, 3, 0)}, 0)
	loses(t, []api.Record{rollsBack(9, 3, 0)}, 0)
	loses(t, []api.Record{insert(1, 3, 0), commits(9, 4, 0), rollsBack(20, 5, 0)}, 1, api.Begun{Xid: 3, Last: 1})
}

func TestLosersOfOtherKinds(t *testing.T) {
	for _, kind := range otherKinds() {
		loses(t, []api.Record{{LSN: 1, Kind: kind, Xid: 3}}, 0)
		loses(t, []api.Record{insert(1, 3, 0), {LSN: 9, Kind: kind, Xid: 3, Prev: 1}}, 1, api.Begun{Xid: 3, Last: 1})
		loses(t, []api.Record{{LSN: 1, Kind: kind, Xid: 3}, insert(9, 3, 1)}, 1, api.Begun{Xid: 3, Last: 9})
	}
}

func TestLosersHaveAnId(t *testing.T) {
	for _, id := range farNumbers {
		var want []api.Begun
		if id > 0 {
			want = []api.Begun{{Xid: id, Last: 1}}
		}
		loses(t, []api.Record{insert(1, id, 0)}, len(want), want...)
		loses(t, []api.Record{insert(1, id, 0), commits(9, id, 1)}, 0)
	}
	loses(t, []api.Record{insert(1, 16, 0), insert(9, 17, 0)}, 2, api.Begun{Xid: 16, Last: 1}, api.Begun{Xid: 17, Last: 9})
}

func TestLosersRise(t *testing.T) {
	for _, ids := range [][]int{{1, 2, 3}, {3, 2, 1}, {2, 1, 3}, {16, 1, 15}, {7, 1000, 20}} {
		var records []api.Record
		var want []api.Begun
		for i, id := range ids {
			records = append(records, insert(10*i+1, id, 0))
			want = append(want, api.Begun{Xid: id, Last: 10*i + 1})
		}
		slices.SortFunc(want, func(a, b api.Begun) int { return a.Xid - b.Xid })
		loses(t, records, len(ids), want...)
	}
}

func TestLastOfAnUndoIsItsNext(t *testing.T) {
	three := []api.Record{insert(1, 3, 0), insert(9, 3, 1), mark(20, 3, 9)}
	loses(t, append(three[:3:3], undo(30, 3, 20, 9)), 2, api.Begun{Xid: 3, Last: 9})
	loses(t, append(three[:3:3], undo(30, 3, 20, 9), undo(40, 3, 30, 1)), 1, api.Begun{Xid: 3, Last: 1})
	loses(t, append(three[:3:3], undo(30, 3, 20, 9), undo(40, 3, 30, 1), undo(50, 3, 40, 0)), 0, api.Begun{Xid: 3})
	loses(t, append(three[:3:3], undo(30, 3, 20, 9), insert(40, 3, 30)), 3, api.Begun{Xid: 3, Last: 40})
	loses(t, []api.Record{undo(30, 3, 20, 9)}, 0, api.Begun{Xid: 3, Last: 9})
	for _, n := range farNumbers {
		loses(t, []api.Record{undo(30, 3, 20, n)}, 0, api.Begun{Xid: 3, Last: n})
	}
}

func TestLosersOfAnIdThatWasGivenAgain(t *testing.T) {
	records := []api.Record{insert(1, 3, 0), insert(9, 3, 1), commits(20, 3, 9), mark(30, 3, 0)}
	loses(t, records, 1, api.Begun{Xid: 3, Last: 30})
	loses(t, append(records, rollsBack(40, 3, 30)), 0)
	loses(t, append(records, commits(40, 3, 30), undo(50, 3, 0, 0)), 0, api.Begun{Xid: 3})
	loses(t, append(records, commits(40, 3, 30), commits(50, 3, 0)), 0)
	loses(t, []api.Record{commits(1, 3, 0), insert(9, 3, 0)}, 1, api.Begun{Xid: 3, Last: 9})
}

func TestLosersAreOfAllRecords(t *testing.T) {
	records := []api.Record{insert(1, 3, 0), insert(9, 4, 0), commits(20, 4, 9), checkpoint(30, 1, 5, 2, 1), insert(40, 5, 0), commits(50, 5, 40)}
	for _, c := range []int{0, 30, 31} {
		f := restart.Find(16, since(c), records...)
		if !slices.Equal(f.Losers, []api.Begun{{Xid: 3, Last: 1}}) || f.Undoes != 1 {
			t.Errorf("Check %d: %+v", c, f)
		}
	}
}

// P21.1, Undoes

func TestUndoesGoesAlongWhatIsNoTransactions(t *testing.T) {
	for _, kind := range otherKinds() {
		records := []api.Record{insert(1, 3, 0), {LSN: 9, Kind: kind, Xid: 3, Prev: 1, Next: 77}, mark(20, 3, 9)}
		loses(t, records, 2, api.Begun{Xid: 3, Last: 20})
	}
	for _, kind := range []api.Kind{api.Commited, api.RolledBack} {
		records := []api.Record{insert(1, 3, 0), {LSN: 9, Kind: kind, Xid: 3, Prev: 1, Next: 77}, mark(20, 3, 9)}
		loses(t, records, 2, api.Begun{Xid: 3, Last: 20})
	}
}

func TestUndoesGoesAlongAnUndosNext(t *testing.T) {
	records := []api.Record{insert(1, 3, 0), insert(9, 3, 1), insert(20, 3, 9), undo(30, 3, 20, 1), insert(40, 3, 30)}
	loses(t, records, 2, api.Begun{Xid: 3, Last: 40})
	records[3].Next = 9
	loses(t, records, 3, api.Begun{Xid: 3, Last: 40})
	records[3].Next = 0
	loses(t, records, 1, api.Begun{Xid: 3, Last: 40})
}

// An Insert's Next is not asked.
func TestUndoesGoesAlongPrev(t *testing.T) {
	records := []api.Record{insert(1, 3, 0), insert(9, 3, 0), mark(20, 3, 9)}
	records[1].Next, records[2].Next = 1, 1
	loses(t, records, 2, api.Begun{Xid: 3, Last: 20})
}

func TestUndoesEndsWhereNoRecordIs(t *testing.T) {
	loses(t, []api.Record{insert(20, 3, 9)}, 1, api.Begun{Xid: 3, Last: 20})
	loses(t, []api.Record{insert(1, 3, 0), insert(20, 3, 9)}, 1, api.Begun{Xid: 3, Last: 20})
	for _, n := range farNumbers {
		loses(t, []api.Record{insert(1, 3, 0), insert(20, 3, n)}, 1, api.Begun{Xid: 3, Last: 20})
	}
}

// Who is looked at, no matter: a chain leads from record to record.
func TestUndoesIsOfAllLosersTogether(t *testing.T) {
	records := []api.Record{insert(1, 3, 0), insert(9, 4, 0), insert(20, 3, 1), mark(30, 4, 9), insert(40, 4, 30), undo(50, 3, 20, 1)}
	loses(t, records, 4, api.Begun{Xid: 3, Last: 1}, api.Begun{Xid: 4, Last: 40})
	loses(t, []api.Record{insert(1, 3, 0), insert(9, 4, 1)}, 3, api.Begun{Xid: 3, Last: 1}, api.Begun{Xid: 4, Last: 9})
}

func TestUndoesOfRecordsThatLeadBackToThemselves(t *testing.T) {
	loses(t, []api.Record{insert(1, 3, 1)}, 1, api.Begun{Xid: 3, Last: 1})
	loses(t, []api.Record{insert(1, 3, 9), insert(9, 3, 1)}, 2, api.Begun{Xid: 3, Last: 9})
	loses(t, []api.Record{insert(1, 3, 0), insert(9, 3, 20), mark(20, 3, 9)}, 2, api.Begun{Xid: 3, Last: 20})
	loses(t, []api.Record{undo(9, 3, 0, 9)}, 0, api.Begun{Xid: 3, Last: 9})
	loses(t, []api.Record{insert(1, 3, 9), insert(9, 4, 1)}, 4, api.Begun{Xid: 3, Last: 1}, api.Begun{Xid: 4, Last: 9})
}

// A record can be told of by its place only above 0; of several in one place it is the first.
func TestUndoesOfOddPlaces(t *testing.T) {
	loses(t, []api.Record{insert(0, 3, 0)}, 0, api.Begun{Xid: 3})
	loses(t, []api.Record{insert(-4, 3, -4)}, 0, api.Begun{Xid: 3, Last: -4})
	loses(t, []api.Record{insert(0, 3, 0), insert(9, 3, 0)}, 1, api.Begun{Xid: 3, Last: 9})
	loses(t, []api.Record{insert(5, 3, 0), images(9), insert(9, 3, 5)}, 0, api.Begun{Xid: 3, Last: 9})
	loses(t, []api.Record{insert(math.MaxInt, 3, 9), insert(9, 3, 0)}, 1, api.Begun{Xid: 3, Last: 9})
}

func TestUndoesOfALongLog(t *testing.T) {
	const most = 60000
	var records []api.Record
	last := map[int]int{}
	for i := range most {
		id := i%1000 + 1
		records = append(records, insert(30*i+1, id, last[id]))
		last[id] = 30*i + 1
	}
	f := restart.Find(1024, noCheckpoint, records...)
	if len(f.Losers) != 1000 || f.Undoes != most {
		t.Errorf("%d losers, %d to be undone", len(f.Losers), f.Undoes)
	}
}

// P21.2

func TestNextIsTheGreatestLast(t *testing.T) {
	tells(t, nil, 0)
	tells(t, []api.Begun{}, 0)
	tells(t, []api.Begun{{Xid: 3}}, 0)
	tells(t, []api.Begun{{Xid: 3, Last: 1}}, 1)
	tells(t, []api.Begun{{Xid: 3, Last: 1}, {Xid: 4, Last: 9}, {Xid: 5}}, 9)
	tells(t, []api.Begun{{Xid: 3, Last: 9}, {Xid: 4, Last: 1}, {Xid: 5, Last: 9}}, 9)
	tells(t, []api.Begun{{Xid: 3, Last: -1}, {Xid: 4, Last: math.MinInt}}, 0)
	tells(t, []api.Begun{{Xid: 3, Last: -1}, {Xid: 4, Last: 1}, {Xid: 5}}, 1)
	tells(t, []api.Begun{{Xid: 900, Last: 4}, {Xid: 0, Last: math.MaxInt}, {Xid: -1, Last: 5}}, math.MaxInt)
}

// P21.3

func TestUndoneHasNextInThatPlace(t *testing.T) {
	losers := []api.Begun{{Xid: 3, Last: 9}, {Xid: 4, Last: 20}, {Xid: 5}}
	leaves(t, losers, 9, 1, api.Begun{Xid: 3, Last: 1}, api.Begun{Xid: 4, Last: 20}, api.Begun{Xid: 5})
	leaves(t, losers, 20, 0, api.Begun{Xid: 3, Last: 9}, api.Begun{Xid: 4}, api.Begun{Xid: 5})
	leaves(t, losers, 20, 20, losers...)
	leaves(t, losers, 21, 1, losers...)
	for _, n := range farNumbers {
		leaves(t, losers, 9, n, api.Begun{Xid: 3, Last: n}, losers[1], losers[2])
		if n != 0 {
			leaves(t, losers, n, 1, losers...)
			leaves(t, []api.Begun{{Xid: 3, Last: n}}, n, 1, api.Begun{Xid: 3, Last: 1})
		}
	}
	leaves(t, nil, 9, 1)
	leaves(t, []api.Begun{}, 0, 1)
}

func TestUndoneOfSeveralIsTheFirst(t *testing.T) {
	losers := []api.Begun{{Xid: 9, Last: 1}, {Xid: 7, Last: 5}, {Xid: 3, Last: 5}, {Xid: 4, Last: 5}}
	leaves(t, losers, 5, 2, losers[0], api.Begun{Xid: 7, Last: 2}, losers[2], losers[3])
	leaves(t, []api.Begun{{Xid: 3}, {Xid: 4}}, 0, 6, api.Begun{Xid: 3, Last: 6}, api.Begun{Xid: 4})
}

// R2, R3

func roomy[T any](hidden T, list ...T) []T { return append(slices.Clone(list), hidden)[:len(list)] }

func hidden[T any](list []T) T { return list[:len(list)+1][len(list)] }

// full is a log in which each field that is a list has elements.
func full() []api.Record {
	k := checkpoint(60, 1, 5, 3, 2)
	k.Pages, k.Txns = []api.Owed{{Page: 7, LSN: 1}}, []api.Begun{{Xid: 3, Last: 9}}
	s := images(70, 4, 5)
	s.Images[0].Body.Items = []string{"a", "b"}
	f := api.Record{LSN: 80, Kind: api.Freeze, Slots: []int{1, 2}, More: []int{3}}
	return []api.Record{insert(1, 3, 0), mark(9, 3, 1), insert(20, 4, 0), k, s, f, undo(90, 4, 20, 0), insert(100, 8, 0)}
}

func TestFindWritesIntoNothing(t *testing.T) {
	behind := insert(200, 9, 0)
	records := roomy(behind, full()...)
	restart.Find(16, since(60), records...)
	if !reflect.DeepEqual(records, full()) || !reflect.DeepEqual(hidden(records), behind) {
		t.Errorf("written into: %+v, %+v", records, hidden(records))
	}
}

func TestLosersAreTheCallers(t *testing.T) {
	records := full()
	a, b := restart.Find(16, since(60), records...), restart.Find(16, since(60), records...)
	want := []api.Begun{{Xid: 3, Last: 9}, {Xid: 4}, {Xid: 8, Last: 100}}
	if !slices.Equal(a.Losers, want) || a.Undoes != 3 {
		t.Fatalf("%+v", a)
	}
	for i := range a.Losers[:cap(a.Losers)] {
		a.Losers[:cap(a.Losers)][i] = api.Begun{Xid: -1, Last: -1}
	}
	if !slices.Equal(b.Losers, want) || !reflect.DeepEqual(records, full()) {
		t.Errorf("written into: %v, %+v", b.Losers, records)
	}
	clear(records)
	if !slices.Equal(b.Losers, want) {
		t.Errorf("hangs on the records: %v", b.Losers)
	}
}

func TestUndoneIsTheCallers(t *testing.T) {
	behind := api.Begun{Xid: 9, Last: 9}
	losers := roomy(behind, api.Begun{Xid: 3, Last: 1}, api.Begun{Xid: 4, Last: 5})
	kept := slices.Clone(losers)
	for _, at := range []int{1, 5, 7} {
		list := restart.Undone(losers, at, 2)
		for i := range list[:cap(list)] {
			list[:cap(list)][i] = api.Begun{Xid: -1, Last: -1}
		}
		restart.Next(losers)
		if !slices.Equal(losers, kept) || hidden(losers) != behind {
			t.Errorf("Undone of %d writes into what it was handed: %v, %v", at, losers, hidden(losers))
		}
	}
}

func TestCallsHangOnNothingElse(t *testing.T) {
	want := restart.Find(16, since(60), full()...)
	for range 20 {
		restart.Find(1024, noCheckpoint, insert(1, 900, 0), cut(9, 5), images(20, 9))
		restart.Undone(want.Losers, 9, 1)
		finds(t, 16, since(60), want, full()...)
	}
}
