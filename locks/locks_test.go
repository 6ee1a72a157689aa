package locks_test

import (
	"fmt"
	"maps"
	"math"
	"math/rand"
	"slices"
	"strings"
	"testing"

	"almonry/api"
	"almonry/locks"
)

// key is the i-th key: a, b, c, and so on.
func key(i int) string {
	if i < 26 {
		return string(rune('a' + i))
	}
	return key(i%26) + key(i/26)
}

func made(t *testing.T) *locks.Table {
	t.Helper()
	x := locks.New()
	if x == nil {
		t.Fatal("New: none")
	}
	return x
}

func tries(t *testing.T, x *locks.Table, who int, key string, want bool, wantErr api.Errno) {
	t.Helper()
	if got, err := x.Try(who, key); got != want || err != wantErr {
		t.Errorf("Try(%d, %q): %v %v, want %v %v", who, key, got, err, want, wantErr)
	}
}

func takes(t *testing.T, x *locks.Table, who int, keys ...string) {
	t.Helper()
	for _, key := range keys {
		tries(t, x, who, key, true, api.OK)
	}
}

func mustWait(t *testing.T, x *locks.Table, who int, key string) {
	t.Helper()
	tries(t, x, who, key, false, api.OK)
	waitsFor(t, x, who, key)
}

func refused(t *testing.T, x *locks.Table, who int, key string) {
	t.Helper()
	tries(t, x, who, key, false, api.ErrDeadlock)
	doesNotWait(t, x, who)
}

func releases(t *testing.T, x *locks.Table, who int, want ...int) {
	t.Helper()
	if got := x.Release(who); !slices.Equal(got, want) {
		t.Errorf("Release(%d): %d, want %d", who, got, want)
	}
}

func heldBy(t *testing.T, x *locks.Table, key string, want int) {
	t.Helper()
	if got, ok := x.Holder(key); got != want || !ok {
		t.Errorf("Holder(%q): %d %v, want %d", key, got, ok, want)
	}
}

func heldByNobody(t *testing.T, x *locks.Table, key string) {
	t.Helper()
	if got, ok := x.Holder(key); got != 0 || ok {
		t.Errorf("Holder(%q): %d %v, want nobody", key, got, ok)
	}
}

func waitsFor(t *testing.T, x *locks.Table, who int, want string) {
	t.Helper()
	if got, ok := x.Waits(who); got != want || !ok {
		t.Errorf("Waits(%d): %q %v, want %q", who, got, ok, want)
	}
}

func doesNotWait(t *testing.T, x *locks.Table, who int) {
	t.Helper()
	if got, ok := x.Waits(who); got != "" || ok {
		t.Errorf("Waits(%d): %q %v, want none", who, got, ok)
	}
}

func holds(t *testing.T, x *locks.Table, who int, want ...string) {
	t.Helper()
	if got := x.Held(who); !slices.Equal(got, want) {
		t.Errorf("Held(%d): %q, want %q", who, got, want)
	}
}

func wait(t *testing.T, x *locks.Table, want ...int) {
	t.Helper()
	if got := x.Waiting(); !slices.Equal(got, want) {
		t.Errorf("Waiting: %d, want %d", got, want)
	}
}

// The chapter's examples.
func TestExamples(t *testing.T) {
	x := made(t)
	takes(t, x, 1, "a", "a")
	takes(t, x, 2, "b")
	mustWait(t, x, 2, "a")
	wait(t, x, 2)
	refused(t, x, 1, "b")
	holds(t, x, 1, "a")
	heldBy(t, x, "b", 2)
	releases(t, x, 1, 2)
	wait(t, x)
	takes(t, x, 2, "a")
	holds(t, x, 2, "a", "b")
	releases(t, x, 3)
}

// P10.1

func TestNewHoldsNothing(t *testing.T) {
	x := made(t)
	for who := -1; who <= 8; who++ {
		holds(t, x, who)
		doesNotWait(t, x, who)
	}
	for _, key := range []string{"", "a", strings.Repeat("k", api.MaxKey)} {
		heldByNobody(t, x, key)
	}
	wait(t, x)
	for who := -1; who <= 8; who++ {
		releases(t, x, who)
	}
}

func TestTwoTablesShareNothing(t *testing.T) {
	x, y := made(t), made(t)
	takes(t, x, 1, "a")
	takes(t, y, 2, "a")
	mustWait(t, x, 2, "a")
	wait(t, y)
	mustWait(t, y, 1, "a")
	releases(t, x, 1, 2)
	heldBy(t, y, "a", 2)
	wait(t, y, 1)
}

// P10.2

func TestTryOfANilTable(t *testing.T) {
	var x *locks.Table
	for _, who := range []int{math.MinInt, -1, 0, 1, math.MaxInt} {
		for _, key := range []string{"", "a"} {
			tries(t, x, who, key, false, api.ErrNil)
		}
	}
}

func TestTryTakesWhatNobodyHolds(t *testing.T) {
	x := made(t)
	takes(t, x, 1, "a", "b")
	heldBy(t, x, "a", 1)
	heldBy(t, x, "b", 1)
	heldByNobody(t, x, "c")
	takes(t, x, 2, "c")
	holds(t, x, 1, "a", "b")
	holds(t, x, 2, "c")
	wait(t, x)
}

func TestTryTakesItsOwnAgain(t *testing.T) {
	x := made(t)
	takes(t, x, 1, "a", "a", "a")
	holds(t, x, 1, "a")
	mustWait(t, x, 2, "a")
	takes(t, x, 1, "a")
	// Who waits for it goes on waiting, and one Release is enough.
	waitsFor(t, x, 2, "a")
	releases(t, x, 1, 2)
	heldByNobody(t, x, "a")
}

func TestTryWaitsForWhatAnotherHolds(t *testing.T) {
	x := made(t)
	takes(t, x, 1, "a")
	for _, who := range []int{4, 2, 3} {
		mustWait(t, x, who, "a")
		mustWait(t, x, who, "a")
		holds(t, x, who)
	}
	heldBy(t, x, "a", 1)
	wait(t, x, 2, 3, 4)
}

func TestTryEndsTheOldWait(t *testing.T) {
	fresh := func() *locks.Table {
		x := made(t)
		takes(t, x, 1, "a")
		takes(t, x, 2, "b")
		takes(t, x, 3, "c")
		mustWait(t, x, 3, "a")
		return x
	}
	t.Run("by taking another", func(t *testing.T) {
		x := fresh()
		takes(t, x, 3, "d")
		doesNotWait(t, x, 3)
		wait(t, x)
		releases(t, x, 1)
	})
	t.Run("by taking its own again", func(t *testing.T) {
		x := fresh()
		takes(t, x, 3, "c")
		doesNotWait(t, x, 3)
		releases(t, x, 1)
	})
	t.Run("by waiting for another", func(t *testing.T) {
		x := fresh()
		mustWait(t, x, 3, "b")
		wait(t, x, 3)
		releases(t, x, 1)
		releases(t, x, 2, 3)
	})
	t.Run("by being refused", func(t *testing.T) {
		x := fresh()
		mustWait(t, x, 2, "c")
		refused(t, x, 3, "b")
		wait(t, x, 2)
		holds(t, x, 3, "c")
		releases(t, x, 1)
	})
}

func TestTryIsNotRefusedForItsOldWait(t *testing.T) {
	x := made(t)
	takes(t, x, 1, "a")
	takes(t, x, 2, "b")
	takes(t, x, 3, "c")
	mustWait(t, x, 1, "b")
	mustWait(t, x, 2, "c")
	// 1 gives up waiting for 2 with this Try: it waits for 3 alone, and no ring is closed.
	mustWait(t, x, 1, "c")
	wait(t, x, 1, 2)
	// 1 and 2 both wait for 3 now.
	refused(t, x, 3, "b")
	refused(t, x, 3, "a")
	takes(t, x, 1, "d")
	mustWait(t, x, 3, "a")
	// 2 waits for 3, and 3 for 1: the chain that led from 1 to them is no more.
	refused(t, x, 1, "b")
}

func TestTryIsRefusedAlongTheChain(t *testing.T) {
	for n := 2; n <= 40; n++ {
		x := made(t)
		for who := range n {
			takes(t, x, who, key(who))
		}
		for who := range n - 1 {
			mustWait(t, x, who, key(who+1))
		}
		last := n - 1
		// Whichever of them it asks, their chains lead back to it.
		for who := range last {
			refused(t, x, last, key(who))
		}
		holds(t, x, last, key(last))
		// One who holds nothing that anybody waits for may wait for any of them.
		for who := range n {
			mustWait(t, x, n, key(who))
		}
	}
}

func TestTryAlongALongChain(t *testing.T) {
	const n = 3000
	x := made(t)
	for who := range n {
		takes(t, x, who, key(who))
	}
	// From the end on, so that each Try has all of the chain ahead of it.
	for who := n - 2; who >= 0; who-- {
		mustWait(t, x, who, key(who+1))
	}
	refused(t, x, n-1, key(0))
	releases(t, x, n-1, n-2)
	mustWait(t, x, n-1, key(0))
}

func TestTryIsNotRefusedByAnotherBranch(t *testing.T) {
	x := made(t)
	takes(t, x, 1, "a", "aa")
	takes(t, x, 2, "b")
	takes(t, x, 3, "c")
	mustWait(t, x, 2, "a")
	mustWait(t, x, 3, "aa")
	// 3's chain is 1 alone; 2, who waits for 1 as well, is not in it.
	mustWait(t, x, 2, "c")
	refused(t, x, 1, "b")
	refused(t, x, 1, "c")
	takes(t, x, 1, "d")
}

func TestARefusalChangesNothingElse(t *testing.T) {
	x := made(t)
	takes(t, x, 1, "a")
	takes(t, x, 2, "b")
	mustWait(t, x, 2, "a")
	mustWait(t, x, 3, "b")
	for range 3 {
		refused(t, x, 1, "b")
		holds(t, x, 1, "a")
		holds(t, x, 2, "b")
		waitsFor(t, x, 2, "a")
		waitsFor(t, x, 3, "b")
		wait(t, x, 2, 3)
	}
}

func TestAnyoneAndAnyKey(t *testing.T) {
	whos := []int{math.MinInt, -1, 0, 1, 7, 8, math.MaxInt}
	keys := []string{"", "\x00", "a", strings.Repeat("k", api.MaxKey), strings.Repeat("k", api.MaxKey+1), "\xff\xfe", strings.Repeat("l", 100000)}
	x := made(t)
	for i, who := range whos {
		takes(t, x, who, keys[i])
		heldBy(t, x, keys[i], who)
		holds(t, x, who, keys[i])
	}
	for i, who := range whos[:len(whos)-1] {
		mustWait(t, x, who, keys[i+1])
	}
	wait(t, x, whos[:len(whos)-1]...)
	refused(t, x, math.MaxInt, "")
	for i := len(whos) - 1; i > 0; i-- {
		releases(t, x, whos[i], whos[i-1])
	}
	releases(t, x, whos[0])
	wait(t, x)
}

func TestNobodyIsNotZero(t *testing.T) {
	x := made(t)
	heldByNobody(t, x, "a")
	takes(t, x, 0, "a")
	heldBy(t, x, "a", 0)
	takes(t, x, 1, "b")
	mustWait(t, x, 1, "a")
	refused(t, x, 0, "b")
	releases(t, x, 1)
	// Keys that nobody holds are not those that 0 holds.
	releases(t, x, 0)
	heldByNobody(t, x, "a")
	takes(t, x, 1, "")
	mustWait(t, x, 0, "")
	waitsFor(t, x, 0, "")
	wait(t, x, 0)
	releases(t, x, 1, 0)
	doesNotWait(t, x, 0)
}

// P10.3

func TestReleaseOfANilTable(t *testing.T) {
	var x *locks.Table
	for _, who := range []int{math.MinInt, 0, 1, math.MaxInt} {
		releases(t, x, who)
	}
}

func TestReleaseLetsGoOfAll(t *testing.T) {
	x := made(t)
	takes(t, x, 1, "a", "b", "c")
	takes(t, x, 2, "d")
	releases(t, x, 1)
	holds(t, x, 1)
	for _, key := range []string{"a", "b", "c"} {
		heldByNobody(t, x, key)
	}
	heldBy(t, x, "d", 2)
	releases(t, x, 1)
	takes(t, x, 2, "a", "b", "c")
}

func TestReleaseEndsItsOwnWait(t *testing.T) {
	x := made(t)
	takes(t, x, 1, "a")
	takes(t, x, 2, "b")
	mustWait(t, x, 2, "a")
	releases(t, x, 2)
	doesNotWait(t, x, 2)
	heldByNobody(t, x, "b")
	heldBy(t, x, "a", 1)
	releases(t, x, 1)
	// The same of one who holds nothing.
	takes(t, x, 1, "a")
	mustWait(t, x, 3, "a")
	releases(t, x, 3)
	wait(t, x)
	releases(t, x, 1)
}

func TestReleaseAnswersWhoWaited(t *testing.T) {
	x := made(t)
	takes(t, x, 5, "a", "b", "c")
	takes(t, x, 6, "d")
	for who, key := range map[int]string{9: "a", 2: "b", -3: "a", 7: "c", 1: "b", 8: "d", 4: "d"} {
		mustWait(t, x, who, key)
	}
	releases(t, x, 5, -3, 1, 2, 7, 9)
	wait(t, x, 4, 8)
	for _, who := range []int{-3, 1, 2, 7, 9} {
		doesNotWait(t, x, who)
		holds(t, x, who)
	}
	for _, key := range []string{"a", "b", "c"} {
		heldByNobody(t, x, key)
	}
	releases(t, x, 5)
	releases(t, x, 6, 4, 8)
	wait(t, x)
}

func TestReleaseAnswersNoneWhoGaveUp(t *testing.T) {
	x := made(t)
	takes(t, x, 1, "a", "b")
	for _, who := range []int{2, 3, 4} {
		mustWait(t, x, who, "a")
		mustWait(t, x, who, "b")
	}
	takes(t, x, 3, "c")
	mustWait(t, x, 4, "c")
	releases(t, x, 1, 2)
	waitsFor(t, x, 4, "c")
}

func TestReleaseGivesNothingAway(t *testing.T) {
	x := made(t)
	takes(t, x, 1, "a")
	mustWait(t, x, 2, "a")
	mustWait(t, x, 3, "a")
	releases(t, x, 1, 2, 3)
	heldByNobody(t, x, "a")
	// Whoever is first has it, also one who did not wait.
	takes(t, x, 4, "a")
	mustWait(t, x, 3, "a")
	mustWait(t, x, 1, "a")
	wait(t, x, 1, 3)
	releases(t, x, 4, 1, 3)
}

func TestReleaseBreaksTheChain(t *testing.T) {
	x := made(t)
	takes(t, x, 1, "a")
	takes(t, x, 2, "b")
	takes(t, x, 3, "c")
	mustWait(t, x, 1, "b")
	mustWait(t, x, 2, "c")
	refused(t, x, 3, "a")
	releases(t, x, 2, 1)
	mustWait(t, x, 3, "a")
	takes(t, x, 1, "b")
	refused(t, x, 1, "c")
}

// P10.4

func TestAskingANilTable(t *testing.T) {
	var x *locks.Table
	heldByNobody(t, x, "")
	heldByNobody(t, x, "a")
	doesNotWait(t, x, 0)
	doesNotWait(t, x, 1)
	holds(t, x, 0)
	holds(t, x, 1)
	wait(t, x)
}

func TestATableThatNewDidNotMake(t *testing.T) {
	empty := func() *locks.Table { return &locks.Table{} }
	heldByNobody(t, empty(), "a")
	doesNotWait(t, empty(), 1)
	holds(t, empty(), 1)
	wait(t, empty())
	releases(t, empty(), 1)
	x := empty()
	takes(t, x, 1, "a")
	takes(t, x, 2, "b")
	mustWait(t, x, 2, "a")
	refused(t, x, 1, "b")
	releases(t, x, 1, 2)
	holds(t, x, 2, "b")
}

func TestHeldRisesByteByByte(t *testing.T) {
	want := []string{"", "\x00", "\x00\x00", "A", "Z", "a", "a\x00", "a\x00b", "aa", "ab", "b", "\x7f", "\x80", "\xc3", "é", "\xff", "\xff\x00", "\xff\xff"}
	r := rand.New(rand.NewSource(1))
	for range 50 {
		x := made(t)
		for _, i := range r.Perm(len(want)) {
			takes(t, x, 1, want[i])
			takes(t, x, 2, "other"+want[i])
		}
		holds(t, x, 1, want...)
	}
}

func TestWaitingRises(t *testing.T) {
	want := []int{math.MinInt, -10, -9, -1, 0, 2, 3, 9, 10, 11, 100, math.MaxInt}
	r := rand.New(rand.NewSource(2))
	for range 50 {
		x := made(t)
		takes(t, x, 1, "a", "b", "c")
		for i, at := range r.Perm(len(want)) {
			mustWait(t, x, want[at], key(i%3))
		}
		wait(t, x, want...)
		releases(t, x, 1, want...)
	}
}

func TestAskingChangesNothing(t *testing.T) {
	x := made(t)
	takes(t, x, 1, "a")
	mustWait(t, x, 2, "a")
	for range 2 {
		heldByNobody(t, x, "b")
		doesNotWait(t, x, 3)
		holds(t, x, 3)
		heldBy(t, x, "a", 1)
		waitsFor(t, x, 2, "a")
		holds(t, x, 1, "a")
		wait(t, x, 2)
	}
	releases(t, x, 1, 2)
}

// R2

func TestAnswersAreTheCallers(t *testing.T) {
	x := made(t)
	takes(t, x, 1, "a", "b", "c")
	mustWait(t, x, 2, "a")
	mustWait(t, x, 3, "b")
	keys, who := x.Held(1), x.Waiting()
	clear(keys)
	clear(who)
	_ = append(keys[:0], "x", "y", "z", "w")
	_ = append(who[:0], 7, 8, 9)
	holds(t, x, 1, "a", "b", "c")
	wait(t, x, 2, 3)
	first := x.Waiting()
	free := x.Release(1)
	clear(free)
	if !slices.Equal(first, []int{2, 3}) {
		t.Errorf("changed: %d", first)
	}
	wait(t, x)
	holds(t, x, 1)
}

// P10.5

func TestARingIsBrokenByWhoIsRefused(t *testing.T) {
	for n := 2; n <= 6; n++ {
		for _, order := range orders(n) {
			x := made(t)
			for who := range n {
				takes(t, x, who, key(who))
			}
			for _, who := range order[:n-1] {
				mustWait(t, x, who, key((who+1)%n))
			}
			last := order[n-1]
			refused(t, x, last, key((last+1)%n))
			before := (last + n - 1) % n
			releases(t, x, last, before)
			// One behind the other goes on and ends.
			for i := 1; i < n; i++ {
				who := (last + n - i) % n
				takes(t, x, who, key((who+1)%n))
				if i < n-1 {
					releases(t, x, who, (who+n-1)%n)
				} else {
					releases(t, x, who)
				}
			}
			wait(t, x)
		}
	}
}

// orders is all orders of the numbers below n.
func orders(n int) [][]int {
	if n == 0 {
		return [][]int{nil}
	}
	var list [][]int
	for _, o := range orders(n - 1) {
		for at := range n {
			list = append(list, slices.Insert(slices.Clone(o), at, n-1))
		}
	}
	return list
}

// model is a table in the chapter's words: who holds each key, and what each one waits for; -1: nobody, nothing.
type model struct {
	holder [maxKeys]int
	waits  [maxWhos]int
}

const (
	maxKeys = 5
	maxWhos = 5
)

func blank() model {
	var m model
	for k := range m.holder {
		m.holder[k] = -1
	}
	for w := range m.waits {
		m.waits[w] = -1
	}
	return m
}

// rings tells whether anybody waits, by any number of steps, for himself.
func (m model) rings() bool {
	var reach [maxWhos][maxWhos]bool
	for w, k := range m.waits {
		if k >= 0 {
			reach[w][m.holder[k]] = true
		}
	}
	for via := range maxWhos {
		for a := range maxWhos {
			for b := range maxWhos {
				reach[a][b] = reach[a][b] || reach[a][via] && reach[via][b]
			}
		}
	}
	for w := range maxWhos {
		if reach[w][w] {
			return true
		}
	}
	return false
}

func (m model) try(who, k int) (model, bool, api.Errno) {
	m.waits[who] = -1
	if m.holder[k] == -1 || m.holder[k] == who {
		m.holder[k] = who
		return m, true, api.OK
	}
	later := m
	later.waits[who] = k
	if later.rings() {
		return m, false, api.ErrDeadlock
	}
	return later, false, api.OK
}

func (m model) release(who int) (model, []int) {
	var free []int
	m.waits[who] = -1
	for w, k := range m.waits {
		if k >= 0 && m.holder[k] == who {
			free = append(free, w)
			m.waits[w] = -1
		}
	}
	for k, h := range m.holder {
		if h == who {
			m.holder[k] = -1
		}
	}
	return m, free
}

// act is a call: a Try, or a Release where there is no key.
type act struct{ who, key int }

// do does an act to both, and tells what differs.
func (a act) do(x *locks.Table, m model) (model, error) {
	if a.key < 0 {
		next, want := m.release(a.who)
		if got := x.Release(a.who); !slices.Equal(got, want) {
			return m, fmt.Errorf("Release(%d): %d, want %d", a.who, got, want)
		}
		return next, nil
	}
	next, want, wantErr := m.try(a.who, a.key)
	if got, err := x.Try(a.who, key(a.key)); got != want || err != wantErr {
		return m, fmt.Errorf("Try(%d, %s): %v %v, want %v %v", a.who, key(a.key), got, err, want, wantErr)
	}
	return next, nil
}

// same holds all that a table answers against the model.
func (m model) same(x *locks.Table) error {
	held, waiting := map[int][]string{}, []int(nil)
	for k, h := range m.holder {
		if got, ok := x.Holder(key(k)); ok != (h >= 0) || got != max(h, 0) {
			return fmt.Errorf("Holder(%s): %d %v, want %d", key(k), got, ok, h)
		}
		held[h] = append(held[h], key(k))
	}
	for w, k := range m.waits {
		want := ""
		if k >= 0 {
			want = key(k)
			waiting = append(waiting, w)
		}
		if got, ok := x.Waits(w); got != want || ok != (k >= 0) {
			return fmt.Errorf("Waits(%d): %q %v, want %q", w, got, ok, want)
		}
		if got := x.Held(w); !slices.Equal(got, held[w]) {
			return fmt.Errorf("Held(%d): %q, want %q", w, got, held[w])
		}
	}
	if got := x.Waiting(); !slices.Equal(got, waiting) {
		return fmt.Errorf("Waiting: %d, want %d", got, waiting)
	}
	return follows(x)
}

// follows is what P10.5 says, asked of the table alone.
func follows(x *locks.Table) error {
	waiting := x.Waiting()
	runs := len(waiting) == 0
	for _, who := range waiting {
		at := who
		for range waiting {
			k, ok := x.Waits(at)
			if !ok {
				break
			}
			whom, held := x.Holder(k)
			if !held || whom == who {
				return fmt.Errorf("%d waits for nobody, or for himself", who)
			}
			at = whom
		}
		if _, ok := x.Waits(at); ok {
			return fmt.Errorf("the chain of %d does not end", who)
		}
		runs = runs || len(x.Held(at)) > 0
	}
	if !runs {
		return fmt.Errorf("nobody who holds a key can go on")
	}
	return nil
}

func acts(whos, keys int) []act {
	var list []act
	for who := range whos {
		for k := -1; k < keys; k++ {
			list = append(list, act{who, k})
		}
	}
	return list
}

// TestEachActFromEachState goes through all that three can come to with three keys.
func TestEachActFromEachState(t *testing.T) {
	ways := map[model][]act{blank(): nil}
	for todo := []model{blank()}; len(todo) > 0; todo = todo[1:] {
		for _, a := range acts(3, 3) {
			way := append(slices.Clone(ways[todo[0]]), a)
			x, m := made(t), blank()
			var err error
			for _, step := range way {
				if m, err = step.do(x, m); err != nil {
					t.Fatalf("%v: %v", way, err)
				}
			}
			if err := m.same(x); err != nil {
				t.Fatalf("%v: %v", way, err)
			}
			if _, known := ways[m]; !known {
				ways[m] = way
				todo = append(todo, m)
			}
		}
	}
	if len(ways) < 100 {
		t.Errorf("%d states were reached", len(ways))
	}
}

func TestScripts(t *testing.T) {
	all := acts(maxWhos, maxKeys)
	refusals := map[api.Errno]int{}
	for seed := range int64(300) {
		r := rand.New(rand.NewSource(seed))
		x, m := made(t), blank()
		for step := range 200 {
			a := all[r.Intn(len(all))]
			if a.key >= 0 {
				_, _, err := m.try(a.who, a.key)
				refusals[err]++
			}
			var err error
			if m, err = a.do(x, m); err == nil {
				err = m.same(x)
			}
			if err != nil {
				t.Fatalf("seed %d, step %d: %v", seed, step, err)
			}
		}
	}
	if refusals[api.ErrDeadlock] < 100 {
		t.Errorf("too few rings were tried: %v", refusals)
	}
}

// TestAllGoOn is what the refusing is for: all who want keys, in any order, get them and end, as long as who is refused lets go.
func TestAllGoOn(t *testing.T) {
	for seed := range int64(200) {
		r := rand.New(rand.NewSource(seed))
		x := made(t)
		wants, got := map[int][]int{}, map[int]int{}
		for who := range maxWhos {
			wants[who] = r.Perm(maxKeys)
		}
		for turns := 0; len(wants) > 0; turns++ {
			if turns > 10000 {
				t.Fatalf("seed %d: it does not end", seed)
			}
			able := slices.DeleteFunc(slices.Sorted(maps.Keys(wants)), func(who int) bool {
				_, waits := x.Waits(who)
				return waits
			})
			if len(able) == 0 {
				t.Fatalf("seed %d: nobody can go on", seed)
			}
			who := able[r.Intn(len(able))]
			if got[who] == maxKeys {
				x.Release(who)
				delete(wants, who)
				continue
			}
			switch ok, err := x.Try(who, key(wants[who][got[who]])); {
			case ok:
				got[who]++
			case err == api.ErrDeadlock:
				x.Release(who)
				got[who] = 0
			}
		}
		wait(t, x)
	}
}

func TestTheSameCallsAnswerTheSame(t *testing.T) {
	tell := func() string {
		var b strings.Builder
		x := locks.New()
		r := rand.New(rand.NewSource(5))
		for range 2000 {
			who := r.Intn(40)
			if r.Intn(8) == 0 {
				fmt.Fprintln(&b, x.Release(who))
				continue
			}
			got, err := x.Try(who, key(r.Intn(60)))
			fmt.Fprintln(&b, got, err, x.Held(who), x.Waiting())
		}
		return b.String()
	}
	first := tell()
	for range 5 {
		if tell() != first {
			t.Fatal("other answers")
		}
	}
}
