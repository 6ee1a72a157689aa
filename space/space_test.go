package space_test

import (
	"maps"
	"math"
	"math/rand"
	"slices"
	"testing"

	"almonry/space"
)

func made(t *testing.T) *space.Map {
	t.Helper()
	m := space.New()
	if m == nil {
		t.Fatal("New: none")
	}
	return m
}

func has(t *testing.T, m *space.Map, page, want int) {
	t.Helper()
	if got, known := m.Room(page); got != want || !known {
		t.Errorf("Room(%d): %d %v, want %d", page, got, known, want)
	}
}

func unknown(t *testing.T, m *space.Map, pages ...int) {
	t.Helper()
	for _, page := range pages {
		if got, known := m.Room(page); got != 0 || known {
			t.Errorf("Room(%d): %d %v, want none", page, got, known)
		}
	}
}

func finds(t *testing.T, m *space.Map, room, want int) {
	t.Helper()
	if got, found := m.Find(room); got != want || !found {
		t.Errorf("Find(%d): %d %v, want %d", room, got, found, want)
	}
}

func findsNone(t *testing.T, m *space.Map, rooms ...int) {
	t.Helper()
	for _, room := range rooms {
		if got, found := m.Find(room); got != 0 || found {
			t.Errorf("Find(%d): %d %v, want none", room, got, found)
		}
	}
}

func knows(t *testing.T, m *space.Map, want ...int) {
	t.Helper()
	if got := m.Pages(); !slices.Equal(got, want) {
		t.Errorf("Pages: %d, want %d", got, want)
	}
}

func oddNumbers() []int {
	return []int{math.MinInt, math.MinInt + 1, -1, 0, 1, math.MaxInt - 1, math.MaxInt}
}

// The chapter's examples.
func TestExamples(t *testing.T) {
	m := made(t)
	m.Set(5, 100)
	m.Set(3, 10)
	m.Set(9, 40)
	finds(t, m, 11, 5)
	finds(t, m, 10, 3)
	findsNone(t, m, 101)
	knows(t, m, 3, 5, 9)
	m.Set(5, 0)
	finds(t, m, 11, 9)
	m.Drop(9)
	findsNone(t, m, 11)
	unknown(t, m, 9)
}

// P13.1

func TestNewKnowsNoPage(t *testing.T) {
	m := made(t)
	knows(t, m)
	unknown(t, m, oddNumbers()...)
	findsNone(t, m, oddNumbers()...)
}

func TestTwoMapsShareNothing(t *testing.T) {
	m, n := made(t), made(t)
	m.Set(1, 10)
	n.Set(2, 20)
	knows(t, m, 1)
	knows(t, n, 2)
	m.Set(2, 5)
	n.Drop(1)
	has(t, m, 1, 10)
	has(t, m, 2, 5)
	has(t, n, 2, 20)
	unknown(t, n, 1)
}

func TestSetTakesTheLastRoom(t *testing.T) {
	m := made(t)
	for _, room := range []int{10, 40, 40, 3, 0, 490, -7} {
		m.Set(4, room)
		has(t, m, 4, room)
		finds(t, m, room, 4)
		findsNone(t, m, room+1)
		knows(t, m, 4)
	}
}

func TestPageWithoutRoomIsKnown(t *testing.T) {
	m := made(t)
	m.Set(6, 0)
	has(t, m, 6, 0)
	knows(t, m, 6)
	finds(t, m, 0, 6)
	findsNone(t, m, 1)
}

func TestDropForgets(t *testing.T) {
	m := made(t)
	m.Set(4, 10)
	m.Drop(4)
	unknown(t, m, 4)
	knows(t, m)
	findsNone(t, m, 0, 10)
	m.Drop(4)
	knows(t, m)
	m.Set(4, 3)
	has(t, m, 4, 3)
	findsNone(t, m, 10)
}

func TestDropOfUnknownPage(t *testing.T) {
	m := made(t)
	m.Drop(1)
	knows(t, m)
	m.Set(2, 20)
	m.Drop(1)
	m.Drop(3)
	knows(t, m, 2)
	has(t, m, 2, 20)
}

// P13.2

func TestFindTakesTheLeastPage(t *testing.T) {
	m := made(t)
	for _, page := range []int{8, 2, 9, 4, 7} {
		m.Set(page, 30)
	}
	// Not the one that fits best, nor the one with the most room.
	m.Set(5, 20)
	m.Set(10, 400)
	finds(t, m, 20, 2)
	finds(t, m, 30, 2)
	finds(t, m, 31, 10)
	m.Drop(2)
	finds(t, m, 30, 4)
	finds(t, m, 19, 4)
}

func TestFindAtTheEdge(t *testing.T) {
	m := made(t)
	m.Set(3, 10)
	finds(t, m, 9, 3)
	finds(t, m, 10, 3)
	findsNone(t, m, 11)
}

func TestFindOfNothingTakesTheLeastKnown(t *testing.T) {
	m := made(t)
	m.Set(7, 0)
	m.Set(5, 40)
	finds(t, m, 0, 5)
	finds(t, m, -1, 5)
	m.Set(2, 0)
	finds(t, m, 0, 2)
	finds(t, m, 1, 5)
}

func TestPageZeroIsFound(t *testing.T) {
	m := made(t)
	m.Set(1, 50)
	m.Set(0, 10)
	finds(t, m, 10, 0)
	finds(t, m, 11, 1)
	knows(t, m, 0, 1)
	has(t, m, 0, 10)
}

func TestOddNumbersArePagesAndRooms(t *testing.T) {
	for _, page := range oddNumbers() {
		for _, room := range oddNumbers() {
			m := made(t)
			m.Set(page, room)
			has(t, m, page, room)
			knows(t, m, page)
			finds(t, m, room, page)
			finds(t, m, math.MinInt, page)
			if room < math.MaxInt {
				findsNone(t, m, room+1, math.MaxInt)
			}
			m.Drop(page)
			unknown(t, m, page)
			knows(t, m)
		}
	}
	m := made(t)
	for _, page := range slices.Backward(oddNumbers()) {
		m.Set(page, 1)
	}
	knows(t, m, oddNumbers()...)
	for _, page := range oddNumbers() {
		finds(t, m, 1, page)
		m.Drop(page)
	}
	findsNone(t, m, 1)
}

func TestPagesIsTheCallers(t *testing.T) {
	m := made(t)
	for page := range 5 {
		m.Set(page, page)
	}
	first, second := m.Pages(), m.Pages()
	for i := range first {
		first[i] = 99
	}
	_ = append(first[:1], 98, 97)
	if !slices.Equal(second, []int{0, 1, 2, 3, 4}) {
		t.Errorf("another answer of Pages: %d", second)
	}
	knows(t, m, 0, 1, 2, 3, 4)
	unknown(t, m, 99)
	m.Drop(3)
	m.Set(7, 7)
	if !slices.Equal(second, []int{0, 1, 2, 3, 4}) {
		t.Errorf("an answer of Pages behind other calls: %d", second)
	}
}

func TestAskingChangesNothing(t *testing.T) {
	m := made(t)
	m.Set(3, 10)
	for range 3 {
		unknown(t, m, 0, 4)
		findsNone(t, m, 11)
		finds(t, m, 10, 3)
		has(t, m, 3, 10)
		knows(t, m, 3)
	}
}

// P13.3

func TestLessRoomFindsThatPageOrALesserOne(t *testing.T) {
	random := rand.New(rand.NewSource(13))
	for range 50 {
		m := made(t)
		for range random.Intn(20) {
			m.Set(random.Intn(30), random.Intn(60))
		}
		least, found := math.MaxInt, false
		for room := 60; room >= -1; room-- {
			page, ok := m.Find(room)
			if found && !ok || ok && page > least {
				t.Fatalf("Find(%d): %d %v, but of more room %d", room, page, ok, least)
			}
			if ok {
				least, found = page, true
			}
		}
		if found != (len(m.Pages()) > 0) {
			t.Fatalf("Find(-1): %v, but Pages: %d", found, m.Pages())
		}
	}
}

func TestOnePageChangesNoOther(t *testing.T) {
	m := made(t)
	for page := range 10 {
		m.Set(page, 100+page)
	}
	others := func(but int) {
		t.Helper()
		for page := range 10 {
			if page != but {
				has(t, m, page, 100+page)
			}
		}
	}
	for page := range 10 {
		m.Set(page, 0)
		others(page)
		m.Drop(page)
		others(page)
		unknown(t, m, page)
		m.Set(page, 100+page)
		others(-1)
	}
}

// Scripts, held against a list that is gone through from its least page on.

func modelFind(rooms map[int]int, room int) (int, bool) {
	for _, page := range slices.Sorted(maps.Keys(rooms)) {
		if rooms[page] >= room {
			return page, true
		}
	}
	return 0, false
}

func TestScripts(t *testing.T) {
	random := rand.New(rand.NewSource(14))
	for range 30 {
		m, model := made(t), map[int]int{}
		for range 200 {
			page, room := random.Intn(16)-2, random.Intn(40)-5
			if random.Intn(3) == 0 {
				m.Drop(page)
				delete(model, page)
			} else {
				m.Set(page, room)
				model[page] = room
			}
			ask := random.Intn(44) - 7
			wantPage, wantFound := modelFind(model, ask)
			if got, found := m.Find(ask); got != wantPage || found != wantFound {
				t.Fatalf("Find(%d): %d %v, want %d %v of %v", ask, got, found, wantPage, wantFound, model)
			}
			for page := -3; page < 15; page++ {
				want, wantKnown := model[page]
				if got, known := m.Room(page); got != want || known != wantKnown {
					t.Fatalf("Room(%d): %d %v, want %d %v", page, got, known, want, wantKnown)
				}
			}
			knows(t, m, slices.Sorted(maps.Keys(model))...)
		}
	}
}

// R3: what is answered does not hang on the order of the calls that told it.
func TestOrderOfTellingDoesNotMatter(t *testing.T) {
	random := rand.New(rand.NewSource(15))
	for range 20 {
		m := made(t)
		for _, page := range random.Perm(50) {
			m.Set(page, page*7%50)
		}
		for room := range 50 {
			want := 0
			for want*7%50 < room {
				want++
			}
			finds(t, m, room, want)
		}
		findsNone(t, m, 50)
	}
}

// R1: no call panics, of a map that is none or that New did not make.

func TestNilMap(t *testing.T) {
	var m *space.Map
	for _, n := range oddNumbers() {
		m.Set(n, n)
		m.Drop(n)
	}
	knows(t, m)
	unknown(t, m, oddNumbers()...)
	findsNone(t, m, oddNumbers()...)
}

func TestMapThatNewDidNotMake(t *testing.T) {
	var m space.Map
	m.Drop(1)
	unknown(t, &m, 0, 1)
	findsNone(t, &m, 0, 1)
	knows(t, &m)
	m.Set(2, 20)
	has(t, &m, 2, 20)
	finds(t, &m, 20, 2)
	knows(t, &m, 2)
}
