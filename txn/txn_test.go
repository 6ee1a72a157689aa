package txn_test

import (
	"math"
	"math/rand"
	"reflect"
	"slices"
	"testing"

	"almonry/api"
	"almonry/txn"
)

func made(t *testing.T) *txn.Table {
	t.Helper()
	x := txn.New()
	if x == nil {
		t.Fatal("New: none")
	}
	return x
}

func begins(t *testing.T, x *txn.Table, who int, s api.Snapshot, want api.Errno) {
	t.Helper()
	if err := x.Begin(who, s); err != want {
		t.Errorf("Begin(%d, %v): %v, want %v", who, s, err, want)
	}
}

func takes(t *testing.T, x *txn.Table, who, xid int, want api.Errno) {
	t.Helper()
	if err := x.Take(who, xid); err != want {
		t.Errorf("Take(%d, %d): %v, want %v", who, xid, err, want)
	}
}

func logged(t *testing.T, x *txn.Table, who, lsn int, undoes bool, want api.Errno) {
	t.Helper()
	if err := x.Logged(who, lsn, undoes); err != want {
		t.Errorf("Logged(%d, %d, %v): %v, want %v", who, lsn, undoes, err, want)
	}
}

// opened begins a session's transaction, with an id if that is not 0, and logs records of it that may not be undone.
func opened(t *testing.T, x *txn.Table, who, xid int, lsns ...int) {
	t.Helper()
	begins(t, x, who, api.Snapshot{}, api.OK)
	if xid != 0 {
		takes(t, x, who, xid, api.OK)
	}
	for _, lsn := range lsns {
		logged(t, x, who, lsn, false, api.OK)
	}
}

// same holds transactions against each other field by field, and lists item by item.
func same(a, b api.Txn) bool {
	equal := sameSnap(a.Snapshot, b.Snapshot)
	a.Snapshot, b.Snapshot = api.Snapshot{}, api.Snapshot{}
	return equal && reflect.DeepEqual(a, b)
}

func sameSnap(a, b api.Snapshot) bool {
	return a.Next == b.Next && slices.Equal(a.Active, b.Active)
}

func has(t *testing.T, x *txn.Table, who int, want api.Txn) {
	t.Helper()
	if got, is := x.Of(who); !is || !same(got, want) {
		t.Errorf("Of(%d): %v %v, want %v", who, got, is, want)
	}
}

func hasNone(t *testing.T, x *txn.Table, whos ...int) {
	t.Helper()
	for _, who := range whos {
		if got, is := x.Of(who); is || !same(got, api.Txn{}) {
			t.Errorf("Of(%d): %v %v, want none", who, got, is)
		}
	}
}

func ends(t *testing.T, x *txn.Table, who int, want api.Txn) {
	t.Helper()
	if got, err := x.End(who); err != api.OK || !same(got, want) {
		t.Errorf("End(%d): %v %v, want %v", who, got, err, want)
	}
}

func endsNone(t *testing.T, x *txn.Table, who int, want api.Errno) {
	t.Helper()
	if got, err := x.End(who); err != want || !same(got, api.Txn{}) {
		t.Errorf("End(%d): %v %v, want %v alone", who, got, err, want)
	}
}

func run(t *testing.T, x *txn.Table, want ...int) {
	t.Helper()
	if got := x.Running(); !slices.Equal(got, want) {
		t.Errorf("Running: %d, want %d", got, want)
	}
}

func snaps(t *testing.T, x *txn.Table, want ...api.Snapshot) {
	t.Helper()
	if got := x.Snaps(); !slices.EqualFunc(got, want, sameSnap) {
		t.Errorf("Snaps: %v, want %v", got, want)
	}
}

func oldest(t *testing.T, x *txn.Table, want int) {
	t.Helper()
	if got := x.Oldest(); got != want {
		t.Errorf("Oldest: %d, want %d", got, want)
	}
}

func begun(t *testing.T, x *txn.Table, want ...api.Begun) {
	t.Helper()
	if got := x.Begun(); !slices.Equal(got, want) {
		t.Errorf("Begun: %v, want %v", got, want)
	}
}

// isEmpty holds all that may be asked of a table in which no transaction is open.
func isEmpty(t *testing.T, x *txn.Table) {
	t.Helper()
	hasNone(t, x, numbers()...)
	run(t, x)
	snaps(t, x)
	oldest(t, x, 0)
	begun(t, x)
}

func numbers() []int {
	return []int{math.MinInt, math.MinInt + 1, -1, 0, 1, 2, 7, 8, math.MaxInt - 1, math.MaxInt}
}

// The chapter's examples.
func TestExamples(t *testing.T) {
	x := made(t)
	s := api.Snapshot{Next: 5}
	begins(t, x, 2, s, api.OK)
	begins(t, x, 2, api.Snapshot{Next: 6}, api.ErrTxn)
	takes(t, x, 2, 5, api.OK)
	takes(t, x, 2, 6, api.ErrArg)
	logged(t, x, 2, 40, true, api.OK)
	logged(t, x, 2, 40, true, api.ErrArg)
	logged(t, x, 2, 70, false, api.OK)
	want := api.Txn{Snapshot: s, Xid: 5, First: 40, Last: 70, Undoes: 1}
	has(t, x, 2, want)
	run(t, x, 5)
	oldest(t, x, 40)
	begun(t, x, api.Begun{Xid: 5, Last: 70})
	ends(t, x, 2, want)
	endsNone(t, x, 2, api.ErrNoTxn)
}

// P18.1

func TestNewHasNoneOpen(t *testing.T) {
	x := made(t)
	isEmpty(t, x)
	for _, who := range numbers() {
		takes(t, x, who, 1, api.ErrNoTxn)
		logged(t, x, who, 1, true, api.ErrNoTxn)
		endsNone(t, x, who, api.ErrNoTxn)
	}
	isEmpty(t, x)
}

func TestTwoTablesShareNothing(t *testing.T) {
	x, y := made(t), made(t)
	opened(t, x, 1, 5, 40)
	isEmpty(t, y)
	opened(t, y, 1, 5, 30)
	ends(t, x, 1, api.Txn{Xid: 5, First: 40, Last: 40})
	has(t, y, 1, api.Txn{Xid: 5, First: 30, Last: 30})
	isEmpty(t, x)
}

func TestAnyNumberIsASession(t *testing.T) {
	x := made(t)
	for i, who := range numbers() {
		begins(t, x, who, api.Snapshot{Next: i}, api.OK)
		takes(t, x, who, i+1, api.OK)
		logged(t, x, who, 10*(i+1), false, api.OK)
	}
	for i, who := range numbers() {
		begins(t, x, who, api.Snapshot{}, api.ErrTxn)
		want := api.Txn{Snapshot: api.Snapshot{Next: i}, Xid: i + 1, First: 10 * (i + 1), Last: 10 * (i + 1)}
		has(t, x, who, want)
		ends(t, x, who, want)
		hasNone(t, x, who)
	}
	isEmpty(t, x)
}

// P18.2

func TestBeginHasTheSnapshotAlone(t *testing.T) {
	for _, s := range []api.Snapshot{
		{}, {Next: 5}, {Next: 5, Active: []int{3}}, {Next: 5, Active: []int{}},
		{Next: -1, Active: []int{9, 2, 2, -7, math.MaxInt}}, {Next: math.MaxInt}, {Next: math.MinInt},
	} {
		x := made(t)
		begins(t, x, 3, s, api.OK)
		has(t, x, 3, api.Txn{Snapshot: s})
		hasNone(t, x, 2, 4)
		snaps(t, x, s)
		run(t, x)
		oldest(t, x, 0)
		begun(t, x)
		ends(t, x, 3, api.Txn{Snapshot: s})
	}
}

func TestBeginOfWhoHasOneOpen(t *testing.T) {
	x := made(t)
	s := api.Snapshot{Next: 5, Active: []int{2, 3}}
	begins(t, x, 1, s, api.OK)
	want := api.Txn{Snapshot: s}
	refused := func() {
		t.Helper()
		for _, other := range []api.Snapshot{{}, {Next: 6}, s} {
			begins(t, x, 1, other, api.ErrTxn)
			has(t, x, 1, want)
			snaps(t, x, s)
		}
	}
	refused()
	takes(t, x, 1, 5, api.OK)
	want.Xid = 5
	refused()
	logged(t, x, 1, 40, true, api.OK)
	want.First, want.Last, want.Undoes = 40, 40, 1
	refused()
}

func TestBeginBehindAnEnd(t *testing.T) {
	x := made(t)
	begins(t, x, 1, api.Snapshot{Next: 5, Active: []int{3}}, api.OK)
	takes(t, x, 1, 5, api.OK)
	logged(t, x, 1, 40, true, api.OK)
	ends(t, x, 1, api.Txn{Snapshot: api.Snapshot{Next: 5, Active: []int{3}}, Xid: 5, First: 40, Last: 40, Undoes: 1})
	begins(t, x, 1, api.Snapshot{Next: 9}, api.OK)
	has(t, x, 1, api.Txn{Snapshot: api.Snapshot{Next: 9}})
	// Neither the id nor the places of the one that is over count any more.
	takes(t, x, 1, 5, api.OK)
	logged(t, x, 1, 1, false, api.OK)
	has(t, x, 1, api.Txn{Snapshot: api.Snapshot{Next: 9}, Xid: 5, First: 1, Last: 1})
}

// P18.3

func TestTakeGivesTheIdAlone(t *testing.T) {
	for _, xid := range []int{1, 2, 5, 1024, 1025, math.MaxInt} {
		x := made(t)
		s := api.Snapshot{Next: 5, Active: []int{xid}}
		begins(t, x, 2, s, api.OK)
		takes(t, x, 2, xid, api.OK)
		has(t, x, 2, api.Txn{Snapshot: s, Xid: xid})
		run(t, x, xid)
		begun(t, x, api.Begun{Xid: xid})
		oldest(t, x, 0)
	}
}

func TestTakeOfNoId(t *testing.T) {
	x := made(t)
	opened(t, x, 2, 0)
	for _, xid := range []int{0, -1, -5, math.MinInt} {
		takes(t, x, 2, xid, api.ErrArg)
		takes(t, x, 3, xid, api.ErrNoTxn)
		has(t, x, 2, api.Txn{})
		run(t, x)
	}
	takes(t, x, 2, 1, api.OK)
}

func TestTakeOfWhoHasAnId(t *testing.T) {
	x := made(t)
	opened(t, x, 2, 5)
	for _, xid := range []int{5, 6, 4, 1, 0, -1} {
		takes(t, x, 2, xid, api.ErrArg)
		has(t, x, 2, api.Txn{Xid: 5})
		run(t, x, 5)
	}
	logged(t, x, 2, 40, false, api.OK)
	takes(t, x, 2, 6, api.ErrArg)
	has(t, x, 2, api.Txn{Xid: 5, First: 40, Last: 40})
}

func TestTakeOfAnothersId(t *testing.T) {
	x := made(t)
	opened(t, x, 1, 5)
	opened(t, x, 2, 6, 40)
	opened(t, x, 3, 0)
	for _, xid := range []int{5, 6} {
		takes(t, x, 3, xid, api.ErrArg)
		takes(t, x, 4, xid, api.ErrNoTxn)
	}
	has(t, x, 1, api.Txn{Xid: 5})
	has(t, x, 2, api.Txn{Xid: 6, First: 40, Last: 40})
	has(t, x, 3, api.Txn{})
	run(t, x, 5, 6)
	// An id is free again when the other one is over.
	ends(t, x, 2, api.Txn{Xid: 6, First: 40, Last: 40})
	takes(t, x, 3, 6, api.OK)
	has(t, x, 3, api.Txn{Xid: 6})
	run(t, x, 5, 6)
}

func TestTakeNextToAnothersId(t *testing.T) {
	x := made(t)
	opened(t, x, 1, 5)
	opened(t, x, 2, 4)
	opened(t, x, 3, 6)
	run(t, x, 4, 5, 6)
}

// P18.4

func TestLoggedTellsFirstAndLast(t *testing.T) {
	x := made(t)
	s := api.Snapshot{Next: 5, Active: []int{3}}
	begins(t, x, 2, s, api.OK)
	takes(t, x, 2, 5, api.OK)
	want := api.Txn{Snapshot: s, Xid: 5, First: 1}
	for _, lsn := range []int{1, 2, 40, 41, 1 << 40, math.MaxInt - 1, math.MaxInt} {
		logged(t, x, 2, lsn, false, api.OK)
		want.Last = lsn
		has(t, x, 2, want)
		oldest(t, x, 1)
		begun(t, x, api.Begun{Xid: 5, Last: lsn})
		logged(t, x, 2, lsn, false, api.ErrArg)
	}
}

func TestLoggedCountsWhatUndoes(t *testing.T) {
	x := made(t)
	opened(t, x, 2, 5)
	undoes := 0
	for i, is := range []bool{false, true, true, false, true, false, false, true} {
		logged(t, x, 2, 10+i, is, api.OK)
		if is {
			undoes++
		}
		has(t, x, 2, api.Txn{Xid: 5, First: 10, Last: 10 + i, Undoes: undoes})
		// What is refused does not count.
		logged(t, x, 2, 10+i, true, api.ErrArg)
		has(t, x, 2, api.Txn{Xid: 5, First: 10, Last: 10 + i, Undoes: undoes})
	}
}

func TestLoggedOfWhoHasNoId(t *testing.T) {
	x := made(t)
	opened(t, x, 1, 4)
	opened(t, x, 2, 0)
	for _, lsn := range []int{math.MinInt, -1, 0, 1, 40, math.MaxInt} {
		logged(t, x, 2, lsn, true, api.ErrArg)
		logged(t, x, 3, lsn, true, api.ErrNoTxn)
		has(t, x, 2, api.Txn{})
		oldest(t, x, 0)
	}
	takes(t, x, 2, 5, api.OK)
	logged(t, x, 2, 1, true, api.OK)
}

func TestLoggedOfNoHigherPlace(t *testing.T) {
	x := made(t)
	opened(t, x, 2, 5)
	for _, lsn := range []int{0, -1, math.MinInt} {
		logged(t, x, 2, lsn, true, api.ErrArg)
		has(t, x, 2, api.Txn{Xid: 5})
	}
	logged(t, x, 2, 40, false, api.OK)
	logged(t, x, 2, 70, false, api.OK)
	for _, lsn := range []int{70, 69, 41, 40, 39, 1, 0, -1, math.MinInt} {
		logged(t, x, 2, lsn, true, api.ErrArg)
		has(t, x, 2, api.Txn{Xid: 5, First: 40, Last: 70})
		begun(t, x, api.Begun{Xid: 5, Last: 70})
	}
	logged(t, x, 2, 71, true, api.OK)
	has(t, x, 2, api.Txn{Xid: 5, First: 40, Last: 71, Undoes: 1})
}

func TestLoggedIsHeldAgainstItsOwnPlacesAlone(t *testing.T) {
	x := made(t)
	opened(t, x, 1, 5, 70)
	opened(t, x, 2, 6)
	logged(t, x, 2, 10, true, api.OK)
	logged(t, x, 2, 70, false, api.OK)
	has(t, x, 1, api.Txn{Xid: 5, First: 70, Last: 70})
	has(t, x, 2, api.Txn{Xid: 6, First: 10, Last: 70, Undoes: 1})
}

// P18.5

func TestOfLeavesItOpen(t *testing.T) {
	x := made(t)
	opened(t, x, 2, 5, 40)
	for range 3 {
		has(t, x, 2, api.Txn{Xid: 5, First: 40, Last: 40})
		hasNone(t, x, 1, 3, 5, 40)
	}
}

func TestEndIsOnce(t *testing.T) {
	x := made(t)
	s := api.Snapshot{Next: 9, Active: []int{4, 6}}
	begins(t, x, 2, s, api.OK)
	endsNone(t, x, 1, api.ErrNoTxn)
	endsNone(t, x, 3, api.ErrNoTxn)
	ends(t, x, 2, api.Txn{Snapshot: s})
	for range 2 {
		endsNone(t, x, 2, api.ErrNoTxn)
		takes(t, x, 2, 5, api.ErrNoTxn)
		logged(t, x, 2, 40, true, api.ErrNoTxn)
	}
	isEmpty(t, x)
}

func TestEndOfEachKind(t *testing.T) {
	x := made(t)
	opened(t, x, 1, 0)
	opened(t, x, 2, 5)
	opened(t, x, 3, 6, 40, 50)
	ends(t, x, 2, api.Txn{Xid: 5})
	ends(t, x, 3, api.Txn{Xid: 6, First: 40, Last: 50})
	ends(t, x, 1, api.Txn{})
	isEmpty(t, x)
}

// P18.6

func TestListsRise(t *testing.T) {
	// Ids, sessions and places are each in another order.
	xids := []int{7, 3, 0, 10, 9, 1, 0, 100}
	random := rand.New(rand.NewSource(18))
	for range 20 {
		x := made(t)
		for _, who := range random.Perm(len(xids)) {
			begins(t, x, who, api.Snapshot{Next: 50 - who, Active: []int{who}}, api.OK)
			if xids[who] != 0 {
				takes(t, x, who, xids[who], api.OK)
				logged(t, x, who, 200+who, false, api.OK)
			}
		}
		run(t, x, 1, 3, 7, 9, 10, 100)
		begun(t, x, api.Begun{Xid: 1, Last: 205}, api.Begun{Xid: 3, Last: 201}, api.Begun{Xid: 7, Last: 200},
			api.Begun{Xid: 9, Last: 204}, api.Begun{Xid: 10, Last: 203}, api.Begun{Xid: 100, Last: 207})
		var want []api.Snapshot
		for who := range xids {
			want = append(want, api.Snapshot{Next: 50 - who, Active: []int{who}})
		}
		snaps(t, x, want...)
		oldest(t, x, 200)
	}
}

func TestSnapsOfNumbersBelowNought(t *testing.T) {
	x := made(t)
	for _, who := range []int{3, math.MinInt, -1, math.MaxInt, 0, -20, 10} {
		begins(t, x, who, api.Snapshot{Next: who}, api.OK)
	}
	snaps(t, x, api.Snapshot{Next: math.MinInt}, api.Snapshot{Next: -20}, api.Snapshot{Next: -1},
		api.Snapshot{}, api.Snapshot{Next: 3}, api.Snapshot{Next: 10}, api.Snapshot{Next: math.MaxInt})
}

func TestSnapsAreOfAllThatAreOpen(t *testing.T) {
	x := made(t)
	same := api.Snapshot{Next: 5, Active: []int{3}}
	begins(t, x, 4, same, api.OK)
	begins(t, x, 2, same, api.OK)
	snaps(t, x, same, same)
	takes(t, x, 4, 6, api.OK)
	logged(t, x, 4, 10, true, api.OK)
	snaps(t, x, same, same)
	ends(t, x, 2, api.Txn{Snapshot: same})
	snaps(t, x, same)
}

func TestBegunOfWhoHasLoggedNothing(t *testing.T) {
	x := made(t)
	opened(t, x, 1, 5)
	opened(t, x, 2, 4, 30)
	opened(t, x, 3, 0)
	begun(t, x, api.Begun{Xid: 4, Last: 30}, api.Begun{Xid: 5})
	run(t, x, 4, 5)
	oldest(t, x, 30)
}

func TestOldestIsTheLeastFirst(t *testing.T) {
	x := made(t)
	opened(t, x, 0, 0)
	opened(t, x, 1, 1)
	oldest(t, x, 0)
	opened(t, x, 2, 2, 50, 90)
	oldest(t, x, 50)
	opened(t, x, 3, 3, 40, 45)
	oldest(t, x, 40)
	opened(t, x, 4, 4, 60)
	oldest(t, x, 40)
	// Neither a later record nor an id that is less brings it forward.
	logged(t, x, 3, 46, true, api.OK)
	oldest(t, x, 40)
	ends(t, x, 3, api.Txn{Xid: 3, First: 40, Last: 46, Undoes: 1})
	oldest(t, x, 50)
	ends(t, x, 2, api.Txn{Xid: 2, First: 50, Last: 90})
	oldest(t, x, 60)
	logged(t, x, 1, math.MaxInt, false, api.OK)
	oldest(t, x, 60)
	ends(t, x, 4, api.Txn{Xid: 4, First: 60, Last: 60})
	oldest(t, x, math.MaxInt)
	ends(t, x, 1, api.Txn{Xid: 1, First: math.MaxInt, Last: math.MaxInt})
	oldest(t, x, 0)
}

// P18.7

func TestWhoBeginsAndEndsLeavesTheOthers(t *testing.T) {
	x := made(t)
	want := map[int]api.Txn{}
	for who := range api.MaxSessions {
		s := api.Snapshot{Next: 20 + who, Active: []int{who, who + 1}}
		begins(t, x, who, s, api.OK)
		want[who] = api.Txn{Snapshot: s}
		if who%3 > 0 {
			takes(t, x, who, who+1, api.OK)
			want[who] = api.Txn{Snapshot: s, Xid: who + 1}
		}
		if who%3 > 1 {
			logged(t, x, who, 100-who, true, api.OK)
			want[who] = api.Txn{Snapshot: s, Xid: who + 1, First: 100 - who, Last: 100 - who, Undoes: 1}
		}
	}
	others := func(but int) {
		t.Helper()
		for who, one := range want {
			if who != but {
				has(t, x, who, one)
			}
		}
	}
	for who := range api.MaxSessions {
		ends(t, x, who, want[who])
		others(who)
		begins(t, x, who, api.Snapshot{Next: 99}, api.OK)
		others(who)
		takes(t, x, who, 50, api.OK)
		logged(t, x, who, 500, true, api.OK)
		others(who)
		ends(t, x, who, api.Txn{Snapshot: api.Snapshot{Next: 99}, Xid: 50, First: 500, Last: 500, Undoes: 1})
		others(who)
		begins(t, x, who, want[who].Snapshot, api.OK)
		want[who] = api.Txn{Snapshot: want[who].Snapshot}
		others(-1)
	}
}

// R2: lists that are handed in or answered.

func TestSnapshotHandedInIsNotKept(t *testing.T) {
	x := made(t)
	list := []int{1, 2, 3, 4}
	begins(t, x, 2, api.Snapshot{Next: 9, Active: list[:2]}, api.OK)
	want := api.Snapshot{Next: 9, Active: []int{1, 2}}
	list[0], list[1] = 70, 80
	has(t, x, 2, api.Txn{Snapshot: want})
	// Nor is it, or what stands behind its length, written into.
	got, _ := x.End(2)
	got.Snapshot.Active = append(got.Snapshot.Active, 90)
	got.Snapshot.Active[0] = 91
	if !slices.Equal(list, []int{70, 80, 3, 4}) {
		t.Errorf("handed in: %d", list)
	}
}

func TestAnswersAreTheCallers(t *testing.T) {
	x := made(t)
	one, two := api.Snapshot{Next: 9, Active: []int{1, 2}}, api.Snapshot{Next: 8, Active: []int{3, 4}}
	begins(t, x, 1, one, api.OK)
	begins(t, x, 2, two, api.OK)
	takes(t, x, 1, 5, api.OK)
	takes(t, x, 2, 6, api.OK)
	scribble := func(list []int) {
		for i := range list {
			list[i] = 77
		}
		_ = append(list, 78)
	}
	first, _ := x.Of(1)
	second, _ := x.Of(1)
	scribble(first.Snapshot.Active)
	if !sameSnap(second.Snapshot, one) {
		t.Errorf("another answer of Of: %v", second)
	}
	all, again := x.Snaps(), x.Snaps()
	scribble(all[0].Active)
	if !sameSnap(all[1], two) || !sameSnap(again[0], one) {
		t.Errorf("other answers of Snaps: %v %v", all[1], again[0])
	}
	all[1] = api.Snapshot{}
	scribble(x.Running())
	list := x.Begun()
	for i := range list {
		list[i] = api.Begun{Xid: 77, Last: 77}
	}
	snaps(t, x, one, two)
	run(t, x, 5, 6)
	begun(t, x, api.Begun{Xid: 5}, api.Begun{Xid: 6})
	has(t, x, 1, api.Txn{Snapshot: one, Xid: 5})
	ends(t, x, 1, api.Txn{Snapshot: one, Xid: 5})
	if !sameSnap(second.Snapshot, one) || !sameSnap(again[0], one) || !sameSnap(again[1], two) {
		t.Errorf("answers behind an End: %v %v", second, again)
	}
}

func TestAskingChangesNothing(t *testing.T) {
	x := made(t)
	s := api.Snapshot{Next: 9, Active: []int{4}}
	begins(t, x, 3, s, api.OK)
	takes(t, x, 3, 5, api.OK)
	logged(t, x, 3, 40, true, api.OK)
	for range 3 {
		has(t, x, 3, api.Txn{Snapshot: s, Xid: 5, First: 40, Last: 40, Undoes: 1})
		hasNone(t, x, 0, 2, 4)
		run(t, x, 5)
		snaps(t, x, s)
		oldest(t, x, 40)
		begun(t, x, api.Begun{Xid: 5, Last: 40})
	}
}

// R1: no call panics, of a table that is none or that New did not make.

func TestNilTable(t *testing.T) {
	var x *txn.Table
	for _, n := range numbers() {
		begins(t, x, n, api.Snapshot{Next: n, Active: []int{n}}, api.ErrNil)
		for _, m := range numbers() {
			takes(t, x, n, m, api.ErrNil)
			logged(t, x, n, m, m%2 == 0, api.ErrNil)
		}
		endsNone(t, x, n, api.ErrNil)
	}
	isEmpty(t, x)
}

func TestTableThatNewDidNotMake(t *testing.T) {
	var x txn.Table
	isEmpty(t, &x)
	takes(t, &x, 1, 5, api.ErrNoTxn)
	logged(t, &x, 1, 5, true, api.ErrNoTxn)
	endsNone(t, &x, 1, api.ErrNoTxn)
	opened(t, &x, 1, 5, 40)
	begins(t, &x, 1, api.Snapshot{}, api.ErrTxn)
	opened(t, &x, 2, 0)
	ends(t, &x, 1, api.Txn{Xid: 5, First: 40, Last: 40})
	has(t, &x, 2, api.Txn{})
}
