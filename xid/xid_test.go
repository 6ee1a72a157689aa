package xid_test

import (
	"math"
	"testing"

	"almonry/api"
	"almonry/xid"
)

// wrongModuli are odd ones, and those on both sides of what a modulus may be.
var wrongModuli = []int{math.MinInt, -16, -2, -1, 0, 1, 2, 8, 14, 15, 17, 31, 1023, 1025, 1026, 2048, math.MaxInt - 1, math.MaxInt}

// steps are ways forward and back, short ones, those around a whole ring, and the longest ones.
func steps(modulus int) []int {
	list := []int{math.MinInt, math.MinInt + 1, math.MaxInt - 1, math.MaxInt}
	for n := -2*modulus - 1; n <= 2*modulus+1; n++ {
		list = append(list, n)
	}
	return list
}

// notIDs are no ids of a modulus.
func notIDs(modulus int) []int {
	return []int{math.MinInt, -modulus, -1, 0, modulus + 1, 2 * modulus, math.MaxInt}
}

func counter(t *testing.T, modulus, next, frozen int) *xid.Counter {
	t.Helper()
	c, err := xid.New(modulus, next, frozen)
	if c == nil || err != api.OK {
		t.Fatalf("New(%d, %d, %d): %v", modulus, next, frozen, err)
	}
	return c
}

func stands(t *testing.T, c *xid.Counter, next, frozen, left int) {
	t.Helper()
	if c.Next() != next || c.Frozen() != frozen || c.Left() != left {
		t.Errorf("next %d, frozen %d, left %d, want %d, %d, %d", c.Next(), c.Frozen(), c.Left(), next, frozen, left)
	}
}

func takes(t *testing.T, c *xid.Counter, want int, wantErr api.Errno) {
	t.Helper()
	if got, err := c.Take(); got != want || err != wantErr {
		t.Errorf("Take: %d %v, want %d %v", got, err, want, wantErr)
	}
}

func freezes(t *testing.T, c *xid.Counter, limit int, want api.Errno) {
	t.Helper()
	if err := c.Freeze(limit); err != want {
		t.Errorf("Freeze(%d): %v, want %v", limit, err, want)
	}
}

// walk is the id that single steps lead to: what follows m is 1.
func walk(modulus, x, n int) int {
	for ; n > 0; n-- {
		if x++; x > modulus {
			x = 1
		}
	}
	for ; n < 0; n++ {
		if x--; x < 1 {
			x = modulus
		}
	}
	return x
}

// P7.1

func TestAddIsSoManySteps(t *testing.T) {
	for _, m := range []int{16, 18, 64} {
		for x := 1; x <= m; x++ {
			for n := -2*m - 1; n <= 2*m+1; n++ {
				if got, want := xid.Add(m, x, n), walk(m, x, n); got != want {
					t.Fatalf("Add(%d, %d, %d) = %d, want %d", m, x, n, got, want)
				}
			}
		}
	}
}

func TestAddOfTheLongestWays(t *testing.T) {
	for _, c := range []struct{ m, x, n, want int }{
		{16, 1, math.MinInt, 1},
		{16, 16, math.MinInt, 16},
		{16, 1, math.MaxInt, 16},
		{16, 16, math.MaxInt, 15},
		{1024, 1024, math.MaxInt, 1023},
		{1024, 1, math.MinInt, 1},
		{18, 18, math.MaxInt, 7},  // 2^63 - 1 is 7 modulo 18
		{18, 1, math.MinInt, 11},  // 2^63 is 8
		{18, 18, math.MinInt, 10}, // likewise
	} {
		if got := xid.Add(c.m, c.x, c.n); got != c.want {
			t.Errorf("Add(%d, %d, %d) = %d, want %d", c.m, c.x, c.n, got, c.want)
		}
	}
}

func TestGapIsTheStepsForward(t *testing.T) {
	for _, m := range []int{16, 18, 64} {
		for from := 1; from <= m; from++ {
			for want := range m {
				if to := walk(m, from, want); xid.Gap(m, from, to) != want {
					t.Fatalf("Gap(%d, %d, %d) = %d, want %d", m, from, to, xid.Gap(m, from, to), want)
				}
			}
		}
	}
}

func TestBeforeIsLessThanHalfTheRing(t *testing.T) {
	for _, m := range []int{16, 18, 64, 1024} {
		for _, a := range []int{1, 2, m/2 - 1, m / 2, m/2 + 1, m - 1, m} {
			for gap := range m {
				b := walk(m, a, gap)
				if got, want := xid.Before(m, a, b), gap >= 1 && gap < m/2; got != want {
					t.Errorf("Before(%d, %d, %d) is %v: the gap is %d", m, a, b, got, gap)
				}
			}
		}
	}
}

func TestAWrongModulusHasNoIDs(t *testing.T) {
	for _, m := range wrongModuli {
		for _, x := range []int{-1, 0, 1, 2, 7, m - 1, m} {
			if got := xid.Add(m, x, 1); got != 0 {
				t.Errorf("Add(%d, %d, 1) = %d", m, x, got)
			}
			if got := xid.Gap(m, x, 3); got != 0 {
				t.Errorf("Gap(%d, %d, 3) = %d", m, x, got)
			}
			if xid.Before(m, x, 3) {
				t.Errorf("Before(%d, %d, 3)", m, x)
			}
		}
	}
}

func TestNumbersThatAreNoIDs(t *testing.T) {
	for _, m := range []int{16, 18, 1024} {
		for _, x := range notIDs(m) {
			for _, n := range steps(16) {
				if got := xid.Add(m, x, n); got != 0 {
					t.Errorf("Add(%d, %d, %d) = %d", m, x, n, got)
				}
			}
			for _, y := range []int{1, 2, m/2 + 1, m, x} {
				if xid.Gap(m, x, y) != 0 || xid.Gap(m, y, x) != 0 {
					t.Errorf("a gap of %d and %d, modulus %d", x, y, m)
				}
				if xid.Before(m, x, y) || xid.Before(m, y, x) {
					t.Errorf("one of %d and %d is ahead, modulus %d", x, y, m)
				}
			}
		}
	}
}

func TestEachEvenModulusIsOne(t *testing.T) {
	for m := 16; m <= 1024; m += 2 {
		if xid.Add(m, m, 1) != 1 || xid.Add(m, 1, -1) != m || xid.Gap(m, 1, m) != m-1 || xid.Gap(m, m, 1) != 1 {
			t.Errorf("the ring of %d", m)
		}
		counter(t, m, m, m)
	}
}

// P7.2

func TestNewStandsWhereItIsTold(t *testing.T) {
	for _, m := range []int{16, 18, 64, 1024} {
		for _, frozen := range []int{1, 2, m / 2, m - 1, m} {
			for gap := range m/2 - 1 {
				next := walk(m, frozen, gap)
				stands(t, counter(t, m, next, frozen), next, frozen, m/2-2-gap)
			}
		}
	}
}

func TestNewRefusesAGapThatIsTooWide(t *testing.T) {
	for _, m := range []int{16, 18, 64} {
		for frozen := 1; frozen <= m; frozen++ {
			for gap := m/2 - 1; gap < m; gap++ {
				refused(t, m, walk(m, frozen, gap), frozen)
			}
		}
	}
}

func TestNewRefusesWrongNumbers(t *testing.T) {
	for _, m := range wrongModuli {
		refused(t, m, 1, 1)
		refused(t, m, m, m)
		refused(t, m, 0, 0)
	}
	for _, m := range []int{16, 18, 1024} {
		for _, x := range notIDs(m) {
			refused(t, m, x, 1)
			refused(t, m, 1, x)
			refused(t, m, x, x)
		}
	}
}

func refused(t *testing.T, modulus, next, frozen int) {
	t.Helper()
	if c, err := xid.New(modulus, next, frozen); c != nil || err != api.ErrArg {
		t.Errorf("New(%d, %d, %d): %v %v", modulus, next, frozen, c, err)
	}
}

// P7.3

func TestTakeGivesOneBehindTheOther(t *testing.T) {
	for _, m := range []int{16, 18, 64} {
		for frozen := 1; frozen <= m; frozen++ {
			for gap := range m/2 - 1 {
				next := walk(m, frozen, gap)
				c := counter(t, m, next, frozen)
				for left := m/2 - 2 - gap; left > 0; left-- {
					stands(t, c, next, frozen, left)
					takes(t, c, next, api.OK)
					next = walk(m, next, 1)
				}
				stands(t, c, next, frozen, 0)
			}
		}
	}
}

func TestTakeOfNoneLeftChangesNothing(t *testing.T) {
	c := counter(t, 16, 4, 14)
	for range 3 {
		takes(t, c, 0, api.ErrXids)
		stands(t, c, 4, 14, 0)
	}
	freezes(t, c, 15, api.OK)
	takes(t, c, 4, api.OK)
	takes(t, c, 0, api.ErrXids)
	stands(t, c, 5, 15, 0)
}

func TestFreezeTakesEachLimitUpToTheNext(t *testing.T) {
	for _, m := range []int{16, 18, 64} {
		for frozen := 1; frozen <= m; frozen++ {
			for gap := range m/2 - 1 {
				next := walk(m, frozen, gap)
				for on := range m {
					c := counter(t, m, next, frozen)
					limit := walk(m, frozen, on)
					if on <= gap {
						freezes(t, c, limit, api.OK)
						stands(t, c, next, limit, m/2-2-gap+on)
					} else {
						freezes(t, c, limit, api.ErrArg)
						stands(t, c, next, frozen, m/2-2-gap)
					}
				}
			}
		}
	}
}

func TestFreezeRefusesWhatIsNoID(t *testing.T) {
	for _, frozen := range []int{1, 9, 14, 16} {
		c := counter(t, 16, walk(16, frozen, 4), frozen)
		for _, limit := range notIDs(16) {
			freezes(t, c, limit, api.ErrArg)
			stands(t, c, walk(16, frozen, 4), frozen, 2)
		}
	}
}

func TestFreezeDoesNotGoBack(t *testing.T) {
	c := counter(t, 16, 6, 1)
	freezes(t, c, 4, api.OK)
	freezes(t, c, 3, api.ErrArg)
	freezes(t, c, 4, api.OK)
	freezes(t, c, 6, api.OK)
	stands(t, c, 6, 6, 6)
	freezes(t, c, 4, api.ErrArg)
	freezes(t, c, 7, api.ErrArg)
	stands(t, c, 6, 6, 6)
}

func TestLeftIsWhatTakeGives(t *testing.T) {
	for _, m := range []int{16, 18, 64, 1024} {
		for gap := range m/2 - 1 {
			c := counter(t, m, walk(m, m-1, gap), m-1)
			left, given := c.Left(), 0
			for _, err := c.Take(); err == api.OK && given <= m; _, err = c.Take() {
				given++
			}
			if left != given {
				t.Errorf("modulus %d, gap %d: %d left, %d given", m, gap, left, given)
			}
		}
	}
}

func TestCountersAreApart(t *testing.T) {
	a, b := counter(t, 16, 3, 1), counter(t, 16, 3, 1)
	takes(t, a, 3, api.OK)
	freezes(t, a, 2, api.OK)
	stands(t, a, 4, 2, 4)
	stands(t, b, 3, 1, 4)
}

func TestANilCounter(t *testing.T) {
	var c *xid.Counter
	takes(t, c, 0, api.ErrNil)
	freezes(t, c, 1, api.ErrNil)
	freezes(t, c, 0, api.ErrNil)
	stands(t, c, 0, 0, 0)
}

func TestACounterThatNewDidNotMake(t *testing.T) {
	c := &xid.Counter{}
	takes(t, c, 0, api.ErrXids)
	freezes(t, c, 0, api.ErrArg)
	freezes(t, c, 1, api.ErrArg)
	stands(t, c, 0, 0, 0)
}

// P7.4

// TestEarlierOnesAreBefore holds what is in use in a list, and takes and freezes by turns of many lengths, till the ring went round several times.
func TestEarlierOnesAreBefore(t *testing.T) {
	for _, m := range []int{16, 18, 64} {
		for _, start := range []int{1, m / 2, m} {
			c := counter(t, m, start, start)
			var used []int
			for turn := range 10 * m {
				used = turnOf(t, c, used, turn)
				inOrder(t, m, used)
				if want := append(used, c.Next())[0]; c.Frozen() != want {
					t.Fatalf("frozen is %d, want %d", c.Frozen(), want)
				}
			}
		}
	}
}

// turnOf takes some ids, as long as there are, and freezes some of those in use.
func turnOf(t *testing.T, c *xid.Counter, used []int, turn int) []int {
	t.Helper()
	for range turn%7 + 1 {
		if x, err := c.Take(); err == api.OK {
			used = append(used, x)
		} else if err != api.ErrXids || c.Left() != 0 {
			t.Fatalf("Take: %d %v", x, err)
		}
	}
	on := turn * turn % (len(used) + 1)
	limit := append(used[:len(used):len(used)], c.Next())[on]
	freezes(t, c, limit, api.OK)
	return used[on:len(used):len(used)]
}

func inOrder(t *testing.T, modulus int, used []int) {
	t.Helper()
	for i, a := range used {
		for _, b := range used[i+1:] {
			if !xid.Before(modulus, a, b) || xid.Before(modulus, b, a) {
				t.Fatalf("modulus %d: %d was given ahead of %d, of %v", modulus, a, b, used)
			}
		}
	}
}

func TestTheGapOfWhatIsAdded(t *testing.T) {
	for _, m := range []int{16, 18, 64, 1024} {
		for _, x := range []int{1, 2, m / 2, m - 1, m} {
			for _, n := range steps(m) {
				want := n % m
				if want < 0 {
					want += m
				}
				if got := xid.Gap(m, x, xid.Add(m, x, n)); got != want {
					t.Fatalf("modulus %d: the gap of %d and %d steps on is %d, want %d", m, x, n, got, want)
				}
			}
		}
	}
}

func TestNotBothAreBefore(t *testing.T) {
	for _, m := range []int{16, 18, 64, 258} {
		for a := 0; a <= m+1; a++ {
			for b := 0; b <= m+1; b++ {
				if xid.Before(m, a, b) && xid.Before(m, b, a) {
					t.Fatalf("modulus %d: %d and %d are ahead of each other", m, a, b)
				}
			}
		}
	}
}

// Examples

func TestExamplesOfTheRing(t *testing.T) {
	if xid.Add(16, 15, 3) != 2 || xid.Add(16, 2, -3) != 15 || xid.Add(16, 17, 1) != 0 {
		t.Error("Add")
	}
	if xid.Gap(16, 15, 2) != 3 {
		t.Error("Gap")
	}
	if !xid.Before(16, 15, 2) || xid.Before(16, 2, 15) || xid.Before(16, 1, 9) || !xid.Before(16, 1, 8) {
		t.Error("Before")
	}
}

func TestExampleOfACounter(t *testing.T) {
	c := counter(t, 16, 1, 1)
	stands(t, c, 1, 1, 6)
	for want := 1; want <= 6; want++ {
		takes(t, c, want, api.OK)
	}
	takes(t, c, 0, api.ErrXids)
	freezes(t, c, 8, api.ErrArg)
	freezes(t, c, 4, api.OK)
	stands(t, c, 7, 4, 3)
	takes(t, c, 7, api.OK)
	refused(t, 16, 8, 1)
	refused(t, 15, 1, 1)
}
