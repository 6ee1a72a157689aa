package pool_test

import (
	"fmt"
	"math"
	"slices"
	"strings"
	"testing"

	"almonry/api"
	"almonry/disk"
	"almonry/page"
	"almonry/pool"
	"almonry/wal"
)

const (
	ring   = 10 // sectors of the tests' log, from the first one on
	from   = 11 // the pages' first sector
	pages  = 5  // of which the last one was never written
	size   = from + pages*api.PageSectors + 1
	record = 24 // bytes of the tests' records
)

var extremes = []int{-1, math.MinInt, math.MaxInt}

// shop is a pool with the disk and the log that it stands on.
type shop struct {
	t *testing.T
	d *disk.Disk
	l *wal.Log
	p *pool.Pool
}

// open is a pool over the pages a, b, c, d, and one that was never written.
func open(t *testing.T, frames int) *shop {
	t.Helper()
	d := newDisk(t, size)
	l, err := wal.Format(d, 0, ring)
	if err != api.OK {
		t.Fatal("Format", err)
	}
	for n := range pages - 1 {
		d.Write(from+n*api.PageSectors, encoded(t, body(0, string(rune('a'+n)))))
	}
	d.Sync()
	p, err := pool.New(d, l, from, pages, frames)
	if err != api.OK || p == nil {
		t.Fatal("New", err)
	}
	return &shop{t, d, l, p}
}

func newDisk(t *testing.T, sectors int) *disk.Disk {
	t.Helper()
	d, err := disk.New(sectors)
	if err != api.OK {
		t.Fatal(err)
	}
	return d
}

func body(lsn int, items ...string) api.Page {
	return api.Page{LSN: lsn, Kind: api.HeapPage, Items: items}
}

func encoded(t *testing.T, p api.Page) string {
	t.Helper()
	data, err := page.Encode(p)
	if err != api.OK {
		t.Fatal(err)
	}
	return data
}

func answers(t *testing.T, what string, got, want api.Errno) {
	t.Helper()
	if got != want {
		t.Errorf("%s: %v, want %v", what, got, want)
	}
}

// logged is the places of so many records more.
func (s *shop) logged(n int) []int {
	s.t.Helper()
	places := make([]int, n)
	for i := range places {
		at, err := s.l.Append(api.Record{Kind: api.RolledBack, Page: 1})
		if err != api.OK {
			s.t.Fatal("Append", err)
		}
		places[i] = at
	}
	return places
}

// kill makes the disk dead.
func (s *shop) kill() {
	s.t.Helper()
	s.d.Arm(1)
	answers(s.t, "the act at which it dies", s.d.Sync(), api.ErrDead)
}

func (s *shop) fetches(number, pick int, want api.Page) {
	s.t.Helper()
	got, err := s.p.Fetch(number, pick)
	if err != api.OK || !page.Same(got, want) {
		s.t.Errorf("Fetch(%d, %d): %v %v, want %v", number, pick, got, err, want)
	}
}

func (s *shop) refuses(number, pick int, want api.Errno) {
	s.t.Helper()
	got, err := s.p.Fetch(number, pick)
	if err != want || !page.Same(got, api.Page{}) {
		s.t.Errorf("Fetch(%d, %d): %v %v, want %v", number, pick, got, err, want)
	}
}

func (s *shop) sets(number int, b api.Page, pick int) {
	s.t.Helper()
	answers(s.t, fmt.Sprint("Set of ", number), s.p.Set(number, b, pick), api.OK)
}

func (s *shop) writes(number int) {
	s.t.Helper()
	answers(s.t, fmt.Sprint("Write of ", number), s.p.Write(number), api.OK)
}

func (s *shop) holds(want ...int) {
	s.t.Helper()
	if got := s.p.Held(); !slices.Equal(got, want) {
		s.t.Errorf("held are %v, want %v", got, want)
	}
}

// owes holds the dirty table against one of pages and LSNs, by turns.
func (s *shop) owes(want ...int) {
	s.t.Helper()
	var list []api.Owed
	for i := 0; i < len(want); i += 2 {
		list = append(list, api.Owed{Page: want[i], LSN: want[i+1]})
	}
	if got := s.p.Dirty(); !slices.Equal(got, list) {
		s.t.Errorf("dirty are %v, want %v", got, list)
	}
	for n := range pages {
		in := slices.ContainsFunc(list, func(o api.Owed) bool { return o.Page == n })
		if s.p.Owes(n) != in {
			s.t.Errorf("Owes(%d): %v, want %v", n, !in, in)
		}
	}
}

// acts asks how many acts of the disk something makes.
func (s *shop) acts(want int, do func()) {
	s.t.Helper()
	before := s.d.Acts()
	do()
	if got := s.d.Acts() - before; got != want {
		s.t.Errorf("%d acts, want %d", got, want)
	}
}

// stands asks for a page's bytes on the disk.
func (s *shop) stands(number int, want api.Page) {
	s.t.Helper()
	data, err := s.d.Read(from+number*api.PageSectors, api.PageSectors)
	if err != api.OK || data != encoded(s.t, want) {
		got, wrong := page.Decode(data)
		s.t.Errorf("page %d is %v on the disk (%v, %v), want %v", number, got, err, wrong, want)
	}
}

// sectorsOf is a page's.
func sectorsOf(number int) []int {
	list := make([]int, api.PageSectors)
	for i := range list {
		list[i] = from + number*api.PageSectors + i
	}
	return list
}

func (s *shop) pends(want ...int) {
	s.t.Helper()
	if got := s.d.Pending(); !slices.Equal(got, want) {
		s.t.Errorf("pending are %v, want %v", got, want)
	}
}

// The chapter's examples.

func TestExamples(t *testing.T) {
	s := open(t, 2)
	s.fetches(0, 9, body(0, "a"))
	s.fetches(1, 9, body(0, "b"))
	s.holds(0, 1)
	s.fetches(2, -1, body(0, "c"))
	s.holds(0, 2)
	at := s.logged(1)[0]
	s.sets(2, body(at, "z"), 0)
	s.owes(2, at)
	s.fetches(3, 1, body(0, "d"))
	s.holds(0, 3)
	s.owes(2, at)
	if s.l.Flushed() != s.l.Tail() {
		t.Error("the log is flushed to", s.l.Flushed())
	}
	s.stands(2, body(at, "z"))
	s.p.Synced()
	s.owes()
	s.refuses(pages, 0, api.ErrRange)
	s.refuses(4, 0, api.ErrPage)
}

// P6.1

func TestNewHoldsNothing(t *testing.T) {
	for _, frames := range []int{1, 2, 3, 1024} {
		s := open(t, frames)
		s.holds(slices.Repeat([]int{-1}, frames)...)
		s.owes()
		s.pends()
	}
}

func TestNewArguments(t *testing.T) {
	d, great := newDisk(t, 40), newDisk(t, 65536)
	l, _ := wal.Format(newDisk(t, 4), 0, 4)
	for i, c := range []struct {
		d                   *disk.Disk
		l                   *wal.Log
		from, pages, frames int
		want                api.Errno
	}{
		{d, l, 0, 1, 1, api.OK},
		{d, l, 0, 5, 1, api.OK}, {d, l, 1, 5, 1, api.ErrArg}, {d, l, 0, 6, 1, api.ErrArg},
		{d, l, 8, 4, 1, api.OK}, {d, l, 9, 4, 1, api.ErrArg}, {d, l, 8, 5, 1, api.ErrArg},
		{d, l, 32, 1, 1, api.OK}, {d, l, 33, 1, 1, api.ErrArg}, {d, l, 40, 1, 1, api.ErrArg},
		{d, l, -1, 1, 1, api.ErrArg}, {d, l, -8, 5, 1, api.ErrArg},
		{d, l, math.MinInt, 1, 1, api.ErrArg}, {d, l, math.MaxInt, 1, 1, api.ErrArg}, {d, l, math.MaxInt - 7, 5, 1, api.ErrArg},
		{d, l, 0, 5, 1024, api.OK}, {d, l, 0, 5, 1025, api.ErrArg}, {d, l, 0, 5, 0, api.ErrArg},
		{d, l, 0, 5, -1, api.ErrArg}, {d, l, 0, 5, math.MinInt, api.ErrArg}, {d, l, 0, 5, math.MaxInt, api.ErrArg},
		{d, l, 0, 0, 1, api.ErrArg}, {d, l, 0, -1, 1, api.ErrArg}, {d, l, 0, math.MinInt, 1, api.ErrArg},
		{d, l, 0, math.MaxInt, 1, api.ErrArg}, {d, l, 0, 1 << 61, 1, api.ErrArg}, {d, l, 0, 1<<61 + 1, 1, api.ErrArg},
		{great, l, 0, 8192, 1024, api.OK}, {great, l, 1, 8192, 1, api.ErrArg}, {great, l, 0, 8193, 1, api.ErrArg},
		{nil, l, 0, 1, 1, api.ErrArg}, {d, nil, 0, 1, 1, api.ErrArg}, {nil, nil, -1, 0, 0, api.ErrArg},
		{&disk.Disk{}, l, 0, 1, 1, api.ErrArg},
	} {
		p, err := pool.New(c.d, c.l, c.from, c.pages, c.frames)
		if err != c.want || (p == nil) != (err != api.OK) {
			t.Errorf("%d: %v %v, want %v", i, p, err, c.want)
		}
	}
	if d.Acts() != 0 || great.Acts() != 0 {
		t.Error("New acts on the disk")
	}
}

func TestNewOfADeadDisk(t *testing.T) {
	s := open(t, 1)
	s.kill()
	p, err := pool.New(s.d, s.l, from, pages, 1)
	if p == nil || err != api.OK {
		t.Fatal(err)
	}
	s.p = p
	s.refuses(0, 0, api.ErrDead)
}

func TestThePagesOfTheGreatestDisk(t *testing.T) {
	d := newDisk(t, 65536)
	l, _ := wal.Format(newDisk(t, 4), 0, 4)
	p, err := pool.New(d, l, 0, 8192, 1024)
	if err != api.OK {
		t.Fatal(err)
	}
	s := &shop{t, d, l, p}
	s.sets(8191, body(1, "last"), 0)
	s.writes(8191)
	s.refuses(8192, 0, api.ErrRange)
	if data, _ := d.Read(65536-api.PageSectors, api.PageSectors); data != encoded(t, body(1, "last")) {
		t.Error("the last page stands elsewhere")
	}
}

// P6.2

func TestFetchRefuses(t *testing.T) {
	s := open(t, 1)
	s.sets(0, body(s.logged(1)[0], "new"), 0)
	s.acts(0, func() {
		for _, number := range append(extremes, pages, pages+1) {
			s.refuses(number, 0, api.ErrRange)
		}
		s.refuses(4, 0, api.ErrPage)
	})
	s.holds(0)
	s.owes(0, 1)
	s.kill()
	s.refuses(pages, 0, api.ErrRange)
	s.refuses(4, 0, api.ErrDead)
	s.fetches(0, 0, body(1, "new"))
}

func TestFetchOfBytesThatAreNoPage(t *testing.T) {
	s := open(t, 1)
	// A page of which a sector was lost has another sum.
	data := encoded(t, body(0, strings.Repeat("x", 400)))
	s.d.Write(from, data[:7*api.Sector])
	s.d.Write(from+3, strings.Repeat("y", api.Sector))
	s.refuses(0, 0, api.ErrPage)
	s.holds(-1)
	s.d.Write(from, data)
	s.fetches(0, 0, body(0, strings.Repeat("x", 400)))
}

func TestFetchTakesTheLeastEmptyFrame(t *testing.T) {
	for _, pick := range append(extremes, 0, 1, 2, 3) {
		s := open(t, 3)
		s.fetches(3, pick, body(0, "d"))
		s.holds(3, -1, -1)
		s.fetches(0, pick, body(0, "a"))
		s.holds(3, 0, -1)
		s.fetches(2, pick, body(0, "c"))
		s.holds(3, 0, 2)
	}
}

func TestFetchTakesThePickedFrame(t *testing.T) {
	for _, c := range []struct{ pick, frame int }{
		{0, 0}, {1, 1}, {2, 2}, {3, 0}, {4, 1}, {302, 2}, {-1, 2}, {-2, 1}, {-3, 0}, {-4, 2},
		{math.MaxInt, 1}, {math.MaxInt - 1, 0}, {math.MinInt, 1}, {math.MinInt + 1, 2},
	} {
		s := open(t, 3)
		for n := range 3 {
			s.fetches(n, 0, body(0, string(rune('a'+n))))
		}
		want := []int{0, 1, 2}
		want[c.frame] = 3
		s.acts(0, func() { s.fetches(3, c.pick, body(0, "d")) })
		s.holds(want...)
		s.fetches(3, c.pick+1, body(0, "d"))
		s.holds(want...)
		s.owes()
	}
}

func TestFetchOfAHeldPageReadsNothing(t *testing.T) {
	s := open(t, 2)
	s.fetches(1, 0, body(0, "b"))
	s.d.Write(from+api.PageSectors, encoded(t, body(0, "other")))
	s.fetches(1, 0, body(0, "b"))
	s.holds(1, -1)
	s.kill()
	s.fetches(1, 0, body(0, "b"))
	s.refuses(0, 0, api.ErrDead)
	s.holds(1, -1)
}

func TestFetchReadsAgainWhatIsHeldNoMore(t *testing.T) {
	s := open(t, 1)
	s.fetches(1, 0, body(0, "b"))
	s.fetches(0, 0, body(0, "a"))
	s.d.Write(from+api.PageSectors, encoded(t, body(0, "other")))
	s.fetches(1, 0, body(0, "other"))
}

func TestWhatIsFetchedIsUnchanged(t *testing.T) {
	s := open(t, 1)
	s.fetches(0, 0, body(0, "a"))
	s.acts(0, func() {
		s.writes(0)
		s.fetches(1, 0, body(0, "b"))
	})
	s.owes()
}

func TestWhatWasWrittenIsUnchanged(t *testing.T) {
	s := open(t, 1)
	at := s.logged(1)[0]
	s.sets(0, body(at, "x"), 0)
	s.writes(0)
	s.acts(0, func() {
		s.fetches(1, 0, body(0, "b"))
		s.fetches(0, 0, body(at, "x"))
		s.fetches(1, 0, body(0, "b"))
	})
}

func TestFetchOfAllFields(t *testing.T) {
	s := open(t, 1)
	whole := api.Page{LSN: 1 << 40, Kind: api.NodePage, Level: 255, Right: math.MaxUint32, High: "high", Items: []string{"x", "", "yz"}}
	s.d.Write(from, encoded(t, whole))
	s.fetches(0, 0, whole)
	whole.LSN = s.logged(1)[0]
	s.sets(0, whole, 0)
	s.fetches(0, 0, whole)
	s.fetches(1, 0, body(0, "b"))
	s.fetches(0, 0, whole)
}

func TestWhatIsFetchedIsTheCallers(t *testing.T) {
	s := open(t, 1)
	for range 3 {
		got, err := s.p.Fetch(0, 0)
		if err != api.OK || got.Items[0] != "a" {
			t.Fatal(got, err)
		}
		got.Items[0] = "mine"
		got.Items = append(got.Items, "more")
	}
	s.sets(0, body(s.logged(1)[0], "new"), 0)
	got, _ := s.p.Fetch(0, 0)
	got.Items[0] = "mine"
	s.fetches(0, 0, body(1, "new"))
	s.writes(0)
	s.stands(0, body(1, "new"))
}

func TestFetchThatWrites(t *testing.T) {
	s := open(t, 2)
	at := s.logged(3)
	s.sets(0, body(at[0], "x"), 0)
	s.sets(1, body(at[2], "y"), 0)
	// The log's 72 bytes are two blocks.
	s.acts(2+1+api.PageSectors, func() { s.fetches(2, 1, body(0, "c")) })
	s.holds(0, 2)
	s.owes(0, at[0], 1, at[2])
	s.pends(sectorsOf(1)...)
	s.stands(1, body(at[2], "y"))
	s.stands(0, body(0, "a"))
	s.acts(api.PageSectors, func() { s.fetches(1, 0, body(at[2], "y")) })
	s.holds(1, 2)
	s.stands(0, body(at[0], "x"))
}

// The disk dies at each act of a Fetch that must write another page.
func TestFetchDies(t *testing.T) {
	acts := 1 + 1 + api.PageSectors
	for act := 1; act <= acts+1; act++ {
		s := open(t, 1)
		at := s.logged(1)[0]
		s.sets(0, body(at, "x"), 0)
		s.d.Arm(act)
		if act > acts {
			s.fetches(1, 0, body(0, "b"))
			continue
		}
		s.refuses(1, 0, api.ErrDead)
		s.refuses(1, 0, api.ErrDead)
		s.d.Crash()
		s.fetches(0, 0, body(at, "x"))
		s.fetches(1, 0, body(0, "b"))
		s.fetches(0, 0, body(at, "x"))
	}
}

// P6.3

func TestSetRefuses(t *testing.T) {
	s := open(t, 1)
	s.sets(0, body(s.logged(1)[0], "x"), 0)
	wrong := []struct {
		body api.Page
		want api.Errno
	}{
		{api.Page{}, api.ErrRange},
		{api.Page{LSN: 1, Kind: 4}, api.ErrRange},
		{api.Page{LSN: -1, Kind: 2}, api.ErrRange},
		{api.Page{LSN: math.MinInt, Kind: 2}, api.ErrRange},
		{api.Page{LSN: 1, Kind: 2, Level: 256}, api.ErrRange},
		{api.Page{LSN: 1, Kind: 2, Right: -1}, api.ErrRange},
		{api.Page{LSN: 0, Kind: 9}, api.ErrRange},
		{api.Page{LSN: 1, Kind: 2, High: strings.Repeat("h", 256)}, api.ErrLong},
		{body(1, strings.Repeat("x", 491)), api.ErrLong},
		{body(1, make([]string, 256)...), api.ErrLong},
		{body(0, strings.Repeat("x", 491)), api.ErrLong},
		{body(0), api.ErrArg},
		{body(0, "x"), api.ErrArg},
	}
	s.acts(0, func() {
		for i, c := range wrong {
			for number := range 2 {
				answers(t, fmt.Sprint("Set of wrong body ", i), s.p.Set(number, c.body, 0), c.want)
			}
			for _, number := range append(extremes, pages) {
				answers(t, "Set of no such page", s.p.Set(number, c.body, 0), api.ErrRange)
			}
			answers(t, "Set of no pool", (*pool.Pool)(nil).Set(-1, c.body, 0), api.ErrNil)
		}
		answers(t, "Set of no such page", s.p.Set(pages, body(1), 0), api.ErrRange)
	})
	s.holds(0)
	s.owes(0, 1)
	s.fetches(0, 0, body(1, "x"))
}

func TestSetOfTheGreatest(t *testing.T) {
	s := open(t, 1)
	for i, b := range []api.Page{
		body(1), body(1, strings.Repeat("x", 490)), body(1, make([]string, 246)...),
		{LSN: math.MaxInt, Kind: api.ClogPage, Level: 255, Right: math.MaxUint32, High: strings.Repeat("h", 255)},
	} {
		s.sets(i, b, 0)
		s.fetches(i, 0, b)
		s.writes(i)
		s.stands(i, b)
	}
}

func TestSetTakesFrames(t *testing.T) {
	s := open(t, 3)
	at := s.logged(4)
	s.sets(4, body(at[0], "x"), 2)
	s.holds(4, -1, -1)
	s.sets(0, body(at[1], "y"), 2)
	s.holds(4, 0, -1)
	s.fetches(3, 2, body(0, "d"))
	s.sets(1, body(at[2], "z"), -4)
	s.holds(4, 0, 1)
	s.acts(0, func() { s.sets(0, body(at[3], "w"), 2) })
	s.holds(4, 0, 1)
	s.owes(0, at[1], 1, at[2], 4, at[0])
	s.fetches(4, 0, body(at[0], "x"))
	s.fetches(0, 0, body(at[3], "w"))
	s.fetches(1, 0, body(at[2], "z"))
}

func TestSetReadsNothing(t *testing.T) {
	s := open(t, 2)
	s.kill()
	s.sets(4, body(1, "x"), 0)
	s.sets(0, body(2, "y"), 0)
	s.sets(4, body(3, "z"), 0)
	s.fetches(4, 0, body(3, "z"))
	answers(t, "Set that must write", s.p.Set(1, body(4, "w"), 0), api.ErrDead)
	s.fetches(4, 0, body(3, "z"))
}

func TestSetOfAFetchedPage(t *testing.T) {
	s := open(t, 2)
	s.fetches(0, 0, body(0, "a"))
	at := s.logged(1)[0]
	s.sets(0, body(at, "x"), 1)
	s.holds(0, -1)
	s.owes(0, at)
	s.stands(0, body(0, "a"))
}

func TestTheTableKeepsTheFirstLSN(t *testing.T) {
	s := open(t, 1)
	at := s.logged(3)
	s.sets(0, body(at[1], "x"), 0)
	s.sets(0, body(at[2], "y"), 0)
	s.owes(0, at[1])
	s.sets(0, body(at[0], "z"), 0)
	s.owes(0, at[1])
	s.writes(0)
	s.owes(0, at[1])
	s.sets(0, body(at[2], "w"), 0)
	s.owes(0, at[1])
	s.p.Synced()
	s.owes(0, at[1])
	s.writes(0)
	s.p.Synced()
	s.owes()
	s.sets(0, body(at[2], "v"), 0)
	s.owes(0, at[2])
}

// A page that is not held is Set, and its frame's taking flushes the log: it owes from then on.
func TestSetBehindAFlush(t *testing.T) {
	s := open(t, 1)
	at := s.logged(2)
	s.sets(0, body(at[0], "x"), 0)
	s.sets(1, body(at[1], "y"), 0)
	s.owes(0, at[0], 1, at[1])
	at = append(at, s.logged(1)...)
	s.sets(1, body(at[2], "z"), 0)
	s.sets(0, body(at[2], "w"), 0)
	s.owes(0, at[2], 1, at[1])
}

// Likewise without one: it has owed all the time.
func TestSetWithoutAFlush(t *testing.T) {
	s := open(t, 1)
	at := s.logged(3)
	s.l.Flush(at[2])
	s.sets(0, body(at[0], "x"), 0)
	s.sets(1, body(at[1], "y"), 0)
	s.sets(0, body(at[2], "w"), 0)
	s.owes(0, at[0], 1, at[1])
}

func TestSetKeepsNothingOfTheCaller(t *testing.T) {
	s := open(t, 1)
	at := s.logged(1)[0]
	list := []string{"x", "y", "behind"}
	s.sets(0, body(at, list[:2]...), 0)
	list[0], list[1] = "mine", "mine"
	s.fetches(0, 0, body(at, "x", "y"))
	s.writes(0)
	s.stands(0, body(at, "x", "y"))
	if list[2] != "behind" {
		t.Error("what stands behind the list is", list[2])
	}
}

// The disk dies at each act of a Set that must write another page.
func TestSetDies(t *testing.T) {
	acts := 1 + 1 + api.PageSectors
	for act := 1; act <= acts+1; act++ {
		s := open(t, 1)
		at := s.logged(2)
		s.sets(0, body(at[0], "x"), 0)
		s.d.Arm(act)
		if act > acts {
			s.sets(1, body(at[1], "y"), 0)
			s.holds(1)
			s.owes(0, at[0], 1, at[1])
			continue
		}
		answers(t, "Set", s.p.Set(1, body(at[1], "y"), 0), api.ErrDead)
		answers(t, "Set again", s.p.Set(1, body(at[1], "y"), 0), api.ErrDead)
		s.d.Crash()
		s.fetches(0, 0, body(at[0], "x"))
		s.fetches(1, 0, body(0, "b"))
		s.fetches(0, 0, body(at[0], "x"))
	}
}

// P6.4

func TestNoPool(t *testing.T) {
	s := &shop{t: t}
	s.refuses(0, 0, api.ErrNil)
	s.refuses(-1, 0, api.ErrNil)
	answers(t, "Set", s.p.Set(0, body(1), 0), api.ErrNil)
	answers(t, "Write", s.p.Write(0), api.ErrNil)
	answers(t, "Write", s.p.Write(-1), api.ErrNil)
	s.p.Synced()
	s.owes()
	s.holds()
}

func TestZeroPool(t *testing.T) {
	s := &shop{t: t, p: &pool.Pool{}}
	for _, number := range append(extremes, 0) {
		s.refuses(number, 0, api.ErrRange)
		answers(t, "Set", s.p.Set(number, body(1), 0), api.ErrRange)
		answers(t, "Write", s.p.Write(number), api.ErrRange)
	}
	s.p.Synced()
	s.owes()
	s.holds()
}

func TestOwesOfNoSuchPage(t *testing.T) {
	s := open(t, 1)
	for n := range pages {
		s.sets(n, body(s.logged(1)[0]), 0)
	}
	for _, number := range append(extremes, pages) {
		if s.p.Owes(number) {
			t.Error("owes", number)
		}
	}
}

func TestWriteRefuses(t *testing.T) {
	s := open(t, 1)
	s.sets(0, body(s.logged(1)[0]), 0)
	s.acts(0, func() {
		for _, number := range append(extremes, pages) {
			answers(t, "Write", s.p.Write(number), api.ErrRange)
		}
	})
	s.kill()
	answers(t, "Write of a page that is not held", s.p.Write(1), api.OK)
	answers(t, "Write of no such page", s.p.Write(pages), api.ErrRange)
	answers(t, "Write", s.p.Write(0), api.ErrDead)
}

func TestWriteOfNothing(t *testing.T) {
	s := open(t, 2)
	s.fetches(0, 0, body(0, "a"))
	s.sets(1, body(s.logged(1)[0], "x"), 0)
	s.writes(1)
	s.acts(0, func() {
		s.writes(0)
		s.writes(1)
		s.writes(2)
		s.writes(4)
	})
	s.kill()
	s.acts(0, func() { s.writes(1) })
	s.holds(0, 1)
	s.owes(1, 1)
}

func TestWriteFlushesFirst(t *testing.T) {
	s := open(t, 2)
	at := s.logged(2)
	s.sets(3, body(at[1], "x"), 0)
	s.acts(0, func() { s.sets(3, body(at[0], "y"), 0) })
	s.acts(1+1+api.PageSectors, func() { s.writes(3) })
	s.pends(sectorsOf(3)...)
	s.stands(3, body(at[0], "y"))
	s.holds(3, -1)
	s.owes(3, at[1])
	if s.l.Flushed() != s.l.Tail() {
		t.Error("the log is flushed to", s.l.Flushed())
	}
}

// A record that stands at the flushed place is not flushed, the one ahead of it is.
func TestWriteFlushesWhatItMust(t *testing.T) {
	s := open(t, 1)
	at := s.logged(1)
	s.l.Flush(at[0])
	at = append(at, s.logged(2)...)
	if at[1] != s.l.Flushed() || at[1] != 1+record {
		t.Fatal(at, s.l.Flushed())
	}
	for number, lsn := range []int{at[0], at[1] - 1} {
		s.sets(number, body(lsn, "x"), 0)
		s.acts(api.PageSectors, func() { s.writes(number) })
		if s.l.Flushed() != at[1] {
			t.Fatal("the log is flushed to", s.l.Flushed())
		}
	}
	s.owes(0, at[0], 1, at[1]-1)
	s.sets(0, body(at[1], "y"), 0)
	s.acts(2+1+api.PageSectors, func() { s.writes(0) })
	if s.l.Flushed() != s.l.Tail() {
		t.Error("the log is flushed to", s.l.Flushed())
	}
	s.sets(0, body(at[2], "z"), 0)
	s.acts(api.PageSectors, func() { s.writes(0) })
}

// A flush syncs what was written ahead of it, not what is written behind it, nor what is changed.
func TestWriteBehindAFlushIsSynced(t *testing.T) {
	s := open(t, 3)
	at := s.logged(3)
	s.l.Flush(at[2])
	s.sets(0, body(at[0], "x"), 0)
	s.sets(1, body(at[1], "y"), 0)
	s.sets(4, body(at[2], "z"), 0)
	s.writes(0)
	s.fetches(2, 0, body(0, "c"))
	s.writes(1)
	s.owes(0, at[0], 1, at[1], 4, at[2])
	next := s.logged(1)[0]
	s.sets(1, body(next, "w"), 0)
	s.sets(2, body(next, "v"), 0)
	s.writes(2)
	s.owes(1, at[1], 2, next, 4, at[2])
	s.writes(4)
	s.writes(1)
	s.owes(1, at[1], 2, next, 4, at[2])
	s.d.Crash()
	s.stands(0, body(at[0], "x"))
	s.stands(1, body(at[1], "y"))
	s.stands(2, body(0, "c"))
}

// An LSN that no record of the log has: Flush finds nothing, and what is said to follow it does.
func TestWriteOfAnLSNAheadOfTheTail(t *testing.T) {
	s := open(t, 2)
	s.sets(0, body(100, "x"), 0)
	s.acts(api.PageSectors, func() { s.writes(0) })
	s.owes(0, 100)
	s.sets(1, body(1, "y"), 0)
	s.acts(api.PageSectors, func() { s.writes(1) })
	s.owes(1, 1)
	s.logged(1)
	s.sets(0, body(100, "z"), 0)
	s.acts(1+1+api.PageSectors, func() { s.writes(0) })
	s.owes(0, 100)
}

// The disk dies at each act of a Write: the page stays changed.
func TestWriteDies(t *testing.T) {
	const flush = 2 + 1
	for act := 1; act <= flush+api.PageSectors+1; act++ {
		s := open(t, 2)
		at := s.logged(3)
		s.sets(1, body(at[2], "x"), 0)
		s.d.Arm(act)
		if act > flush+api.PageSectors {
			s.writes(1)
			s.d.Arm(0)
			s.acts(0, func() { s.writes(1) })
			continue
		}
		answers(t, "Write", s.p.Write(1), api.ErrDead)
		s.owes(1, at[2])
		s.holds(1, -1)
		s.fetches(1, 0, body(at[2], "x"))
		s.p.Synced()
		s.owes(1, at[2])
		if flushed := s.l.Flushed() == s.l.Tail(); flushed != (act > flush) {
			t.Error("the log is flushed to", s.l.Flushed(), "with act", act)
		}
		s.d.Crash()
		s.stands(1, body(0, "b"))
		left := api.PageSectors
		if act <= flush {
			left += flush
		}
		s.acts(left, func() { s.writes(1) })
		s.stands(1, body(at[2], "x"))
		s.acts(0, func() { s.writes(1) })
	}
}

func TestSynced(t *testing.T) {
	s := open(t, 2)
	at := s.logged(4)
	s.l.Flush(at[3])
	s.p.Synced()
	s.owes()
	s.sets(0, body(at[0]), 0)
	s.sets(1, body(at[1]), 0)
	s.sets(3, body(at[2]), 0)
	s.sets(4, body(at[3]), 1)
	s.holds(3, 4)
	s.owes(0, at[0], 1, at[1], 3, at[2], 4, at[3])
	s.writes(4)
	s.acts(0, s.p.Synced)
	s.owes(3, at[2])
	s.holds(3, 4)
	s.p.Synced()
	s.owes(3, at[2])
	s.fetches(4, 0, body(at[3]))
	s.acts(api.PageSectors, func() { s.writes(3) })
	s.p.Synced()
	s.owes()
}

// What was written, and is read again unchanged, is synced by who says so.
func TestSyncedOfAPageThatIsReadAgain(t *testing.T) {
	s := open(t, 1)
	at := s.logged(1)[0]
	s.sets(0, body(at, "x"), 0)
	s.fetches(1, 0, body(0, "b"))
	s.fetches(0, 0, body(at, "x"))
	s.owes(0, at)
	s.acts(0, func() { s.writes(0) })
	s.p.Synced()
	s.owes()
}

func TestDirtyIsByPages(t *testing.T) {
	s := open(t, 5)
	at := s.logged(5)
	for i, number := range []int{3, 0, 4, 2, 1} {
		s.sets(number, body(at[i]), 0)
	}
	s.owes(0, at[1], 1, at[4], 2, at[3], 3, at[0], 4, at[2])
	s.holds(3, 0, 4, 2, 1)
}

func TestListsAreTheCallers(t *testing.T) {
	s := open(t, 2)
	at := s.logged(1)[0]
	s.sets(1, body(at), 0)
	dirty, held := s.p.Dirty(), s.p.Held()
	dirty[0], held[0], held[1] = api.Owed{Page: 3, LSN: 9}, 3, 3
	_ = append(append(dirty[:0], api.Owed{}), api.Owed{})
	s.owes(1, at)
	s.holds(1, -1)
}

func TestPoolsAreApart(t *testing.T) {
	s := open(t, 1)
	other, err := pool.New(s.d, s.l, from, pages, 2)
	if err != api.OK {
		t.Fatal(err)
	}
	s.sets(0, body(s.logged(1)[0], "x"), 0)
	o := &shop{t, s.d, s.l, other}
	o.holds(-1, -1)
	o.owes()
	o.fetches(0, 0, body(0, "a"))
	s.fetches(0, 0, body(1, "x"))
}

// P6.5, P6.6

// world is a shop that is told what to do by a row of numbers, and what its pages were Set to last.
type world struct {
	*shop
	seed  uint32
	last  [pages]api.Page
	picks func() int
}

func newWorld(t *testing.T, frames int, seed uint32) *world {
	w := &world{shop: open(t, frames), seed: seed}
	for n := range pages - 1 {
		w.last[n] = body(0, string(rune('a'+n)))
	}
	w.picks = func() int { return w.number(100) - 50 }
	return w
}

func (w *world) number(n int) int {
	w.seed = w.seed*1664525 + 1013904223
	return int(w.seed>>8) % n
}

// change logs a record and Sets a page by it; the log is recycled when it is full.
func (w *world) change(number int) api.Errno {
	at, err := w.l.Append(api.Record{Kind: api.RolledBack, Page: 1})
	if err == api.ErrLog {
		if err := w.flush(); err != api.OK {
			return err
		}
		answers(w.t, "Recycle", w.l.Recycle(w.l.Tail()), api.OK)
		at = w.logged(1)[0]
	}
	b := body(at, strings.Repeat(string(rune('a'+at%26)), at%450), fmt.Sprint(at))
	err = w.p.Set(number, b, w.picks())
	if err == api.OK {
		w.last[number] = b
	}
	return err
}

func (w *world) sync() api.Errno {
	err := w.d.Sync()
	if err == api.OK {
		w.p.Synced()
	}
	return err
}

// flush tells the pool of the log's sync: there is none, if nothing was to be flushed.
func (w *world) flush() api.Errno {
	acts := w.d.Acts()
	err := w.l.Flush(w.l.Tail())
	if err == api.OK && w.d.Acts() > acts {
		w.p.Synced()
	}
	return err
}

func (w *world) fetch(number int) api.Errno {
	got, err := w.p.Fetch(number, w.picks())
	switch {
	case w.last[number].Kind == 0:
		if err == api.ErrPage {
			err = api.OK
		}
	case err == api.OK && !page.Same(got, w.last[number]):
		w.t.Fatalf("page %d is %v, want %v", number, got, w.last[number])
	}
	return err
}

func (w *world) step() api.Errno {
	number := w.number(pages)
	switch w.number(12) {
	case 0, 1, 2, 3:
		return w.change(number)
	case 4, 5, 6, 7:
		return w.fetch(number)
	case 8, 9:
		return w.p.Write(number)
	case 10:
		return w.sync()
	}
	if w.number(2) == 0 {
		w.logged(min(1, w.l.Room()/(record+8)))
	}
	return w.flush()
}

// lost asks that what is not owed is on the disk when all that was not synced is lost.
func (w *world) lost() {
	w.t.Helper()
	w.d.Crash()
	for number, b := range w.last {
		if b.Kind != 0 && !w.p.Owes(number) {
			w.stands(number, b)
		}
	}
}

// ahead asks that no page tells of a record that the log has not, when the log's pending sectors are lost and all
// others are kept.
func (w *world) ahead() {
	w.t.Helper()
	pending := w.d.Pending()
	fates := make([]int, len(pending))
	for i, at := range pending {
		if at >= from {
			fates[i] = 1
		}
	}
	w.d.Crash(fates...)
	l, _, err := wal.Open(w.d, 0, ring, w.l.Start())
	if err != api.OK {
		w.t.Fatal("Open", err)
	}
	for number := range pages {
		data, _ := w.d.Read(from+number*api.PageSectors, api.PageSectors)
		if b, err := page.Decode(data); err == api.OK && b.LSN >= l.Tail() {
			w.t.Errorf("page %d has the LSN %d, the log ends at %d", number, b.LSN, l.Tail())
		}
	}
}

func TestPagesAreWhatTheyWereSetTo(t *testing.T) {
	for frames := 1; frames <= pages+1; frames++ {
		for seed := range 10 {
			w := newWorld(t, frames, uint32(1000*frames+seed))
			for range 600 {
				answers(t, "a step", w.step(), api.OK)
			}
			for number := range pages {
				answers(t, "the last Fetch", w.fetch(number), api.OK)
			}
			if frames > pages && slices.Contains(w.p.Held()[:pages], -1) {
				t.Error("held are", w.p.Held())
			}
			edges := []string{}
			for _, at := range []int{ring, size - 1} {
				data, _ := w.d.Read(at, 1)
				edges = append(edges, strings.Trim(data, "\x00"))
			}
			if strings.Join(edges, "") != "" {
				t.Error("sectors around the pages are changed")
			}
		}
	}
}

func TestCrashes(t *testing.T) {
	died := 0
	for seed := range 3000 {
		w := newWorld(t, 1+seed%4, uint32(seed))
		for range w.number(60) {
			answers(t, "a step", w.step(), api.OK)
		}
		if seed%3 > 0 {
			w.d.Arm(1 + w.number(20))
			for !w.d.Dead() {
				w.step()
			}
			died++
		}
		if seed%2 == 0 {
			w.lost()
		} else {
			w.ahead()
		}
	}
	if died != 2000 {
		t.Error(died, "disks have died")
	}
}

// The same calls with other picks, and with another number of frames, are answered the same.
func TestPicksDoNotShow(t *testing.T) {
	for seed := range uint32(40) {
		var told []string
		for frames := 1; frames <= 4; frames++ {
			for pick := range 3 {
				w := newWorld(t, frames, seed)
				turn := 0
				w.picks = func() int {
					turn += pick
					return turn*turn - 7
				}
				for range 150 {
					answers(t, "a step", w.step(), api.OK)
				}
				all := ""
				for number := range pages {
					b, err := w.p.Fetch(number, pick)
					all += fmt.Sprint(b, err)
				}
				told = append(told, all)
			}
		}
		if len(slices.Compact(told)) != 1 {
			t.Fatal("seed", seed, "tells", slices.Compact(told))
		}
	}
}
