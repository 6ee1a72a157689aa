package wal_test

import (
	"math"
	"strings"
	"testing"

	"almonry/api"
	"almonry/bits"
	"almonry/disk"
	"almonry/rec"
	"almonry/wal"
)

const (
	block = 54
	most  = 1 << 62

	size = 10 // sectors of the tests' disk; the ring is four of them, from the third one on
	from = 2
	ring = 4
)

var blank = strings.Repeat("\x00", api.Sector)

func small() api.Record { return api.Record{Kind: api.RolledBack, Page: 1} }

// with is a record with so many bytes of Data, 24 more in all, up to 127 and at places below 128.
func with(data int) api.Record {
	return api.Record{Kind: api.RolledBack, Page: 1, Data: strings.Repeat("d", data)}
}

// full is a record with lists, which must be nobody's but the log's.
func full() api.Record {
	return api.Record{
		Prev: 7, Next: 8, Kind: api.Check, Xid: 9, Page: 2, Slot: 3, Old: 4, New: 5, Redo: 6,
		Data: "ab", Slots: []int{1, 301}, More: []int{10, 0, 11},
		Images: []api.Image{{Page: 14, Body: api.Page{LSN: 5, Kind: api.HeapPage, Items: []string{"x", ""}}}},
		Pages:  []api.Owed{{Page: 17, LSN: 18}},
		Txns:   []api.Begun{{Xid: 21, Last: 22}},
	}
}

// held is the sector that holds block k with these bytes, laid by hand.
func held(k int, text string) string {
	number, count := bits.Big(k+1, 4), string([]byte{byte(len(text))})
	return number + count + text + strings.Repeat("\x00", block-len(text)) + count + number
}

func answers(t *testing.T, what string, got, want api.Errno) {
	t.Helper()
	if got != want {
		t.Errorf("%s: %v, want %v", what, got, want)
	}
}

func newDisk(t *testing.T, sectors int) *disk.Disk {
	t.Helper()
	d, err := disk.New(sectors)
	if err != api.OK {
		t.Fatal(err)
	}
	return d
}

func formatted(t *testing.T) (*disk.Disk, *wal.Log) {
	t.Helper()
	d := newDisk(t, size)
	l, err := wal.Format(d, from, ring)
	if err != api.OK || l == nil {
		t.Fatal("Format", err)
	}
	return d, l
}

// laid is a disk whose ring has these sectors, from its first one on; the sectors around it are marked.
func laid(t *testing.T, sectors ...string) *disk.Disk {
	t.Helper()
	d := newDisk(t, size)
	d.Write(0, strings.Repeat("\xee", size*api.Sector))
	d.Write(from, strings.Repeat(blank, ring))
	if err := d.Write(from, strings.Join(sectors, "")); err != api.OK {
		t.Fatal(err)
	}
	d.Sync()
	return d
}

func dead(t *testing.T) *disk.Disk {
	t.Helper()
	d := newDisk(t, size)
	d.Arm(1)
	d.Sync()
	if !d.Dead() {
		t.Fatal("alive")
	}
	return d
}

func sectors(t *testing.T, d *disk.Disk, at, n int) string {
	t.Helper()
	data, err := d.Read(at, n)
	if err != api.OK {
		t.Fatal(err)
	}
	return data
}

// stands asks for the ring's sectors, and for those around it as laid made them.
func stands(t *testing.T, what string, d *disk.Disk, want ...string) {
	t.Helper()
	for len(want) < ring {
		want = append(want, blank)
	}
	for i, w := range want {
		if got := sectors(t, d, from+i, 1); got != w {
			t.Errorf("%s: sector %d of the ring is % x, want % x", what, i, got, w)
		}
	}
	around := sectors(t, d, 0, from) + sectors(t, d, from+ring, size-from-ring)
	if strings.Trim(around, "\xee") != "" {
		t.Errorf("%s: sectors around the ring are changed", what)
	}
}

func appended(t *testing.T, l *wal.Log, r api.Record, want int) {
	t.Helper()
	if at, err := l.Append(r); at != want || err != api.OK {
		t.Errorf("Append: %d, %v, want %d", at, err, want)
	}
}

func encoded(t *testing.T, r api.Record, lsn int) string {
	t.Helper()
	r.LSN = lsn
	data, err := rec.Encode(r)
	if err != api.OK {
		t.Fatal(err)
	}
	return data
}

// stream is the bytes of records from a place on.
func stream(t *testing.T, at int, rs ...api.Record) string {
	t.Helper()
	all := ""
	for _, r := range rs {
		all += encoded(t, r, at+len(all))
	}
	return all
}

// is asks for a log's start, flushed place, tail and room.
func is(t *testing.T, what string, l *wal.Log, start, flushed, tail, room int) {
	t.Helper()
	if l == nil {
		t.Fatal(what, "no log")
	}
	if l.Start() != start || l.Flushed() != flushed || l.Tail() != tail || l.Room() != room {
		t.Errorf("%s: start %d, flushed %d, tail %d, room %d, want %d, %d, %d, %d", what,
			l.Start(), l.Flushed(), l.Tail(), l.Room(), start, flushed, tail, room)
	}
}

// opens is Open of the tests' ring, which must answer records at these places, and so many acts.
func opens(t *testing.T, what string, d *disk.Disk, start, acts int, places ...int) *wal.Log {
	t.Helper()
	before := d.Acts()
	l, rs, err := wal.Open(d, from, ring, start)
	if err != api.OK || l == nil {
		t.Fatal(what, err)
	}
	if d.Acts()-before != acts {
		t.Errorf("%s: %d acts, want %d", what, d.Acts()-before, acts)
	}
	if len(d.Pending()) > 0 {
		t.Errorf("%s: %v are pending", what, d.Pending())
	}
	if len(rs) != len(places) {
		t.Fatalf("%s: %d records, want %d", what, len(rs), len(places))
	}
	for i, at := range places {
		got, err := l.Get(at)
		if rs[i].LSN != at || err != api.OK || !rec.Same(got, rs[i]) {
			t.Errorf("%s: record %d is %+v, Get %+v, %v", what, i, rs[i], got, err)
		}
	}
	if l.Start() != start || l.Flushed() != l.Tail() {
		t.Errorf("%s: start %d, flushed %d, tail %d", what, l.Start(), l.Flushed(), l.Tail())
	}
	return l
}

// P5.1

func TestFormat(t *testing.T) {
	d := laid(t, strings.Repeat("\xee", ring*api.Sector))
	before := d.Acts()
	l, err := wal.Format(d, from, ring)
	answers(t, "Format", err, api.OK)
	is(t, "Format", l, 1, 1, 1, 108)
	if d.Acts()-before != ring+1 || len(d.Pending()) != 0 {
		t.Error(d.Acts()-before, "acts,", d.Pending(), "pending")
	}
	stands(t, "Format", d)
	answers(t, "Release of nothing", l.Release(1), api.ErrArg)

	whole, err := wal.Format(d, 0, size)
	answers(t, "Format of a whole disk", err, api.OK)
	is(t, "Format of a whole disk", whole, 1, 1, 1, block*(size-2))
}

func TestFormatAndOpenArguments(t *testing.T) {
	alive := newDisk(t, size)
	for _, c := range []struct {
		what    string
		d       *disk.Disk
		from, n int
	}{
		{"no disk", nil, 0, 4},
		{"three sectors", alive, 2, 3},
		{"no sector", alive, 2, 0},
		{"fewer than none", alive, 2, -4},
		{"the least number", alive, 2, math.MinInt},
		{"ahead of the disk", alive, -1, 4},
		{"far ahead of the disk", alive, math.MinInt, 4},
		{"one behind the disk", alive, 7, 4},
		{"behind the disk", alive, 11, 4},
		{"far behind the disk", alive, math.MaxInt, 4},
		{"more than the disk", alive, 0, 11},
		{"far more than the disk", alive, 1, math.MaxInt},
		{"three sectors of a dead disk", dead(t), 2, 3},
		{"behind a dead disk", dead(t), 7, 4},
	} {
		l, err := wal.Format(c.d, c.from, c.n)
		answers(t, "Format, "+c.what, err, api.ErrArg)
		m, rs, err := wal.Open(c.d, c.from, c.n, 1)
		answers(t, "Open, "+c.what, err, api.ErrArg)
		if l != nil || m != nil || len(rs) > 0 {
			t.Error("an answer beside ErrArg:", c.what)
		}
	}
	if alive.Acts() != 0 {
		t.Error("an act beside ErrArg")
	}
}

func TestFormatOfADyingDisk(t *testing.T) {
	l, err := wal.Format(dead(t), from, ring)
	answers(t, "Format of a dead disk", err, api.ErrDead)
	if l != nil {
		t.Error("a log of a dead disk")
	}
	for act := 1; act <= ring+1; act++ {
		d := newDisk(t, size)
		d.Arm(act)
		l, err := wal.Format(d, from, ring)
		answers(t, "Format of a dying disk", err, api.ErrDead)
		if l != nil || len(d.Pending()) != min(act, ring) {
			t.Error(act, l, d.Pending())
		}
	}
	d := newDisk(t, size)
	d.Arm(ring + 2)
	_, err = wal.Format(d, from, ring)
	answers(t, "Format ahead of the disk's death", err, api.OK)
}

// P5.2

func TestOpenArguments(t *testing.T) {
	d, _ := formatted(t)
	for _, start := range []int{0, -1, math.MinInt} {
		l, rs, err := wal.Open(d, from, ring, start)
		answers(t, "Open from ahead of the stream", err, api.ErrArg)
		_, _, err = wal.Open(dead(t), from, ring, start)
		answers(t, "Open of a dead disk from ahead of the stream", err, api.ErrArg)
		if l != nil || len(rs) > 0 {
			t.Error("an answer beside ErrArg")
		}
	}
	l, rs, err := wal.Open(dead(t), from, ring, 1)
	answers(t, "Open of a dead disk", err, api.ErrDead)
	if l != nil || len(rs) > 0 {
		t.Error("an answer beside ErrDead")
	}
}

func TestOpenOfNothing(t *testing.T) {
	d, _ := formatted(t)
	is(t, "of an empty ring", opens(t, "of an empty ring", d, 1, 0), 1, 1, 1, 108)
	is(t, "of an empty ring, from block 1 on", opens(t, "from block 1 on", d, 55, 0), 55, 55, 55, 108)
}

// four is the bytes of four records, at 1, 25, 79 and 103: two blocks, and 18 bytes.
func four(t *testing.T) string {
	t.Helper()
	return stream(t, 1, small(), with(30), small(), small())
}

func TestOpenTakesWhatIsTold(t *testing.T) {
	s := four(t)
	good := []string{held(0, s[:54]), held(1, s[54:108]), held(2, s[108:])}
	for _, c := range []struct {
		what      string
		k, at     int // of the sector that is changed, and of the byte in it
		b         byte
		acts, end int // end: the tail
		places    []int
	}{
		{"all", 0, 3, 1, 0, 127, []int{1, 25, 79, 103}},
		{"another number ahead in block 0", 0, 3, 2, 4, 1, nil},
		{"another number behind in block 0", 0, 63, 5, 4, 1, nil},
		{"another highest byte ahead in block 0", 0, 0, 1, 4, 1, nil},
		{"another highest byte behind in block 0", 0, 60, 1, 4, 1, nil},
		{"another number ahead in block 1", 1, 3, 6, 4, 25, []int{1}},
		{"another number behind in block 1", 1, 63, 6, 4, 25, []int{1}},
		{"another number ahead in block 2", 2, 2, 7, 3, 103, []int{1, 25, 79}},
		{"another number behind in block 2", 2, 61, 7, 3, 103, []int{1, 25, 79}},
		{"fewer bytes ahead in block 0", 0, 4, 53, 4, 25, []int{1}},
		{"fewer bytes behind in block 0", 0, 59, 53, 4, 25, []int{1}},
		{"just the first record ahead in block 0", 0, 4, 24, 4, 25, []int{1}},
		{"one byte too few behind in block 0", 0, 59, 23, 4, 1, nil},
		{"no bytes ahead in block 0", 0, 4, 0, 4, 1, nil},
		{"no bytes behind in block 0", 0, 59, 0, 4, 1, nil},
		{"just the second record in block 1", 1, 4, 24, 3, 79, []int{1, 25}},
		{"one byte too few in block 1", 1, 4, 23, 4, 25, []int{1}},
		{"55 bytes ahead in block 0", 0, 4, 55, 0, 127, []int{1, 25, 79, 103}},
		{"255 bytes ahead in block 1", 1, 4, 255, 0, 127, []int{1, 25, 79, 103}},
		{"255 bytes behind in block 1", 1, 59, 255, 0, 127, []int{1, 25, 79, 103}},
		{"fewer bytes ahead in block 2", 2, 4, 17, 3, 103, []int{1, 25, 79}},
		{"more bytes ahead in block 2", 2, 4, 54, 2, 127, []int{1, 25, 79, 103}},
		{"more bytes behind in block 2", 2, 59, 19, 2, 127, []int{1, 25, 79, 103}},
		{"a byte behind the stream in block 2", 2, 58, 1, 2, 127, []int{1, 25, 79, 103}},
		{"another sum of the third record", 1, 5 + 24 + 6, '!', 3, 79, []int{1, 25}},
	} {
		now := append([]string(nil), good...)
		now[c.k] = now[c.k][:c.at] + string([]byte{c.b}) + now[c.k][c.at+1:]
		d := laid(t, now...)
		l := opens(t, c.what, d, 1, c.acts, c.places...)
		is(t, c.what, l, 1, c.end, c.end, max(0, 108-(c.end-1)))
		want := append([]string(nil), now[:(c.end-1)/block]...)
		if left := (c.end - 1) % block; left > 0 {
			want = append(want, held(len(want), s[c.end-1-left:c.end-1]))
		}
		stands(t, c.what, d, want...)
		opens(t, c.what+", once more", d, 1, 0, c.places...)
	}
}

func TestOpenCountsNoMoreThanABlock(t *testing.T) {
	s := four(t)
	for _, count := range []string{"\x37", "\xff"} {
		first := s[:54]
		over := bits.Big(1, 4) + count + first + count + bits.Big(1, 4)
		d := laid(t, over, held(1, s[54:108]), held(2, s[108:]))
		opens(t, "more than a block", d, 1, 0, 1, 25, 79, 103)
		stands(t, "more than a block", d, over, held(1, s[54:108]), held(2, s[108:]))
	}
}

func TestOpenTakesNothingBehindAPart(t *testing.T) {
	d := laid(t, held(0, encoded(t, small(), 1)), held(1, encoded(t, small(), 25)))
	opens(t, "a block behind a part of one", d, 1, 2, 1)
	stands(t, "a block behind a part of one", d, held(0, encoded(t, small(), 1)))
}

func TestOpenTakesOnlyRecordsOfTheirPlaces(t *testing.T) {
	wrong := encoded(t, small(), 26)
	d := laid(t, held(0, encoded(t, small(), 1)+wrong))
	opens(t, "a record of another place behind", d, 1, 2, 1)
	stands(t, "a record of another place behind", d, held(0, encoded(t, small(), 1)))

	d = laid(t, held(0, encoded(t, small(), 2)))
	opens(t, "a record of another place", d, 1, 2)
	stands(t, "a record of another place", d)
}

func TestOpenFromWithinABlock(t *testing.T) {
	s := four(t)
	whole := []string{held(0, s[:54]), held(1, s[54:108]), held(2, s[108:])}
	d := laid(t, whole...)
	l := opens(t, "from 79 on", d, 79, 2, 79, 103)
	is(t, "from 79 on", l, 79, 127, 127, 108-48)
	// What stands ahead of the start in its own block stays; a block that is wholly ahead of it does not.
	stands(t, "from 79 on", d, blank, whole[1], whole[2])
	answers(t, "Flush of nothing", l.Flush(200), api.OK)
	stands(t, "from 79 on", d, blank, whole[1], whole[2])

	d = laid(t, whole...)
	opens(t, "from within a record on", d, 80, 4)
	stands(t, "from within a record on", d, blank, held(1, s[54:79]))
	opens(t, "from within a record on, once more", d, 80, 0)

	d = laid(t, whole...)
	opens(t, "from the tail on", d, 127, 3)
	stands(t, "from the tail on", d, blank, blank, whole[2])

	d = laid(t, whole...)
	opens(t, "from a block's first place on, within a record", d, 55, 4)
	stands(t, "from a block's first place on, within a record", d)
}

func TestOpenFromBehindWhatIsTold(t *testing.T) {
	s := four(t)
	for _, c := range []struct {
		what        string
		start, acts int
		ring        []string
	}{
		{"nothing is told", 30, 2, nil},
		{"one byte too few is told", 30, 2, []string{held(0, s[:28])}},
		{"another block is told", 30, 2, []string{held(4, s[:54])}},
		{"the block ahead is told", 84, 3, []string{held(0, s[:54])}},
	} {
		d := laid(t, c.ring...)
		l := opens(t, c.what, d, c.start, c.acts)
		is(t, c.what, l, c.start, c.start, c.start, 108)
		opens(t, c.what+", once more", d, c.start, 0)

		appended(t, l, small(), c.start)
		answers(t, c.what+": Flush", l.Flush(c.start), api.OK)
		m := opens(t, c.what+", behind a Flush", d, c.start, 0, c.start)
		is(t, c.what+", behind a Flush", m, c.start, c.start+24, c.start+24, 84)
	}
	d := laid(t, held(0, s[:28]))
	opens(t, "one byte too few is told", d, 30, 2)
	stands(t, "one byte too few is told", d, held(0, strings.Repeat("\x00", 29)))

	d = laid(t, held(0, s[:29]))
	opens(t, "just what is ahead is told", d, 30, 0)
	stands(t, "just what is ahead is told", d, held(0, s[:29]))
}

func TestOpenNumbersBlocks(t *testing.T) {
	for _, k := range []int{0x01020303, 0x7fffffff, 0xfffefdfb, 1<<32 - 1, 1 << 32, 1<<32 + 5, 1<<40 + 2} {
		start := block*k + 1
		s := stream(t, start, small(), with(40))
		sectors := make([]string, ring)
		for i := range sectors {
			sectors[i] = blank
		}
		sectors[k%ring] = held(k, s[:54])
		sectors[(k+1)%ring] = held(k+1, s[54:])
		d := laid(t, sectors...)
		second := start + len(encoded(t, small(), start))
		l := opens(t, "far behind", d, start, 0, start, second)
		if l.Tail() != start+len(s) {
			t.Error(l.Tail(), start+len(s))
		}
		stands(t, "far behind", d, sectors...)
	}
}

func TestOpenAtTheEndOfPlaces(t *testing.T) {
	for _, start := range []int{most - 1, most, most + 1, math.MaxInt - 1, math.MaxInt} {
		d := laid(t, held(0, four(t)[:54]))
		l, rs, err := wal.Open(d, from, ring, start)
		if err != api.OK || l == nil || len(rs) != 0 {
			t.Fatal(start, rs, err)
		}
		is(t, "at the end of places", l, start, start, start, 108)
		want := api.OK
		if start > most {
			want = api.ErrRange
		}
		_, err = l.Append(small())
		answers(t, "Append at the end of places", err, want)
		answers(t, "Flush at the end of places", l.Flush(math.MaxInt), api.OK)
		l, rs, err = wal.Open(d, from, ring, start)
		if err != api.OK || (len(rs) == 1) != (want == api.OK) {
			t.Error(start, rs, err)
		}
		answers(t, "Recycle at the end of places", l.Recycle(l.Tail()), api.OK)
	}
}

// A ring that is full of records to its last byte, as a place that was recycled since may find it.
func TestOpenOfAFullRing(t *testing.T) {
	d, l := formatted(t)
	d.Write(0, strings.Repeat("\xee", from*api.Sector))
	d.Write(from+ring, strings.Repeat("\xee", (size-from-ring)*api.Sector))
	places := []int{}
	for _, data := range []int{30, 30, 30, 29} {
		places = append(places, l.Tail())
		appended(t, l, with(data), l.Tail())
		l.Flush(l.Tail())
		l.Recycle(l.Tail())
	}
	if l.Tail() != ring*block+1 {
		t.Fatal(l.Tail())
	}
	all := sectors(t, d, from, ring)
	m := opens(t, "of a full ring", d, 1, 0, places...)
	is(t, "of a full ring", m, 1, l.Tail(), l.Tail(), 0)
	if sectors(t, d, from, ring) != all {
		t.Error("it is changed")
	}
	_, err := m.Append(small())
	answers(t, "Append to a full ring", err, api.ErrLog)
	answers(t, "Reserve in a full ring", m.Reserve(1), api.ErrLog)
	answers(t, "Recycle in a full ring", m.Recycle(places[1]), api.OK)
	is(t, "behind one block", m, places[1], l.Tail(), l.Tail(), 0)
	answers(t, "Recycle in a full ring", m.Recycle(places[3]), api.OK)
	is(t, "behind three blocks", m, places[3], l.Tail(), l.Tail(), 54)
}

func TestOpenWipesRisingAndSyncs(t *testing.T) {
	stale := []string{held(4, "stale"), held(5, "stale"), held(2, "stale"), held(3, "stale")}
	for i := range 2 * (ring + 1) {
		act, start := 1+i/2, 1+i%2*2*block // from the ring's first sector on, and from its third one
		d := laid(t, stale...)
		d.Arm(act)
		l, rs, err := wal.Open(d, from, ring, start)
		answers(t, "Open of a dying disk", err, api.ErrDead)
		if l != nil || len(rs) > 0 {
			t.Error("an answer beside ErrDead")
		}
		pending := d.Pending()
		for i, at := range pending {
			if at != from+i {
				t.Error(act, pending)
			}
		}
		if len(pending) != min(act, ring) {
			t.Error(act, pending)
		}
	}
	d := laid(t, stale...)
	opens(t, "stale sectors", d, 1, ring+1)
	stands(t, "stale sectors", d)
}

func TestOpenDiesWithRecords(t *testing.T) {
	d := laid(t, held(0, four(t)[:54]))
	d.Arm(1)
	l, rs, err := wal.Open(d, from, ring, 1)
	answers(t, "Open of a dying disk", err, api.ErrDead)
	if l != nil || len(rs) > 0 {
		t.Error("an answer beside ErrDead")
	}
	d.Crash()
	d.Arm(2)
	_, _, err = wal.Open(d, from, ring, 1)
	answers(t, "Open of a disk that dies at the sync", err, api.ErrDead)
	d.Crash(1)
	opens(t, "behind both", d, 1, 0, 1)
}

func TestOpenReservesNothing(t *testing.T) {
	d, l := formatted(t)
	l.Reserve(50)
	m := opens(t, "behind Reserve", d, 1, 0)
	is(t, "behind Reserve", m, 1, 1, 1, 108)
	answers(t, "Release behind Open", m.Release(1), api.ErrArg)
}

// P5.3

func TestAppend(t *testing.T) {
	d, l := formatted(t)
	appended(t, l, small(), 1)
	r := small()
	r.LSN = -7
	appended(t, l, r, 25)
	r.LSN = most
	appended(t, l, r, 49)
	is(t, "three records", l, 1, 1, 73, 36)
	if d.Acts() != ring+1 {
		t.Error("Append has acted")
	}
	for _, at := range []int{1, 25, 49} {
		want := small()
		want.LSN = at
		got, err := l.Get(at)
		if err != api.OK || !rec.Same(got, want) {
			t.Error(at, got, err)
		}
	}
}

func TestAppendRefuses(t *testing.T) {
	_, l := formatted(t)
	appended(t, l, with(70), 1)
	long := with(513)
	wrong := with(513)
	wrong.Prev = -1
	kind := with(513)
	kind.Kind = 0
	image := api.Record{Kind: api.Make, Images: []api.Image{{Body: api.Page{}}}, Data: strings.Repeat("d", 512)}
	_, imageErr := rec.Encode(api.Record{LSN: 1, Kind: api.Make, Images: image.Images})
	if imageErr == api.OK {
		t.Fatal("a page that may be")
	}
	for _, c := range []struct {
		what string
		r    api.Record
		want api.Errno
	}{
		{"of no kind", kind, api.ErrKind},
		{"out of bounds", wrong, api.ErrRange},
		{"that is too long", long, api.ErrLong},
		{"with an image that is no page", image, imageErr},
		{"with no room for it", small(), api.ErrLog},
		{"with no room for it at all", with(512), api.ErrLog},
	} {
		at, err := l.Append(c.r)
		answers(t, "Append of one "+c.what, err, c.want)
		if at != 0 {
			t.Error("a place beside an error")
		}
		is(t, "behind an error", l, 1, 1, 95, 14)
	}
	var none *wal.Log
	at, err := none.Append(kind)
	answers(t, "Append to nothing", err, api.ErrNil)
	if at != 0 {
		t.Error("a place beside ErrNil")
	}
}

func TestAppendFillsTheRoom(t *testing.T) {
	_, l := formatted(t)
	_, err := l.Append(with(85))
	answers(t, "109 bytes", err, api.ErrLog)
	appended(t, l, with(84), 1)
	is(t, "108 bytes", l, 1, 1, 109, 0)

	_, l = formatted(t)
	l.Reserve(60)
	_, err = l.Append(with(25))
	answers(t, "49 bytes", err, api.ErrLog)
	appended(t, l, with(24), 1)
	is(t, "48 bytes", l, 1, 1, 49, 0)
}

func TestAppendKeepsAndWritesNothingOfTheCaller(t *testing.T) {
	d := newDisk(t, 40)
	l, _ := wal.Format(d, 0, 40)
	r := full()
	slots := append(make([]int, 0, 4), r.Slots...)
	r.Slots = slots
	behind := slots[:3]
	behind[2] = 77
	appended(t, l, r, 1)
	want := full()
	want.LSN = 1
	if r.LSN != 0 || behind[2] != 77 || !rec.Same(r, full()) {
		t.Error("the record is changed")
	}
	r.Slots[0], r.More[0], r.Images[0].Page, r.Images[0].Body.Items[0], r.Pages[0].Page, r.Txns[0].Xid = 5, 5, 5, "5", 5, 5
	got, err := l.Get(1)
	if err != api.OK || !rec.Same(got, want) {
		t.Error(got, err)
	}
	got.Slots[0], got.More[0], got.Images[0].Page, got.Images[0].Body.Items[0], got.Pages[0].Page, got.Txns[0].Xid = 5, 5, 5, "5", 5, 5
	if again, err := l.Get(1); err != api.OK || !rec.Same(again, want) {
		t.Error("what Get answers is the log's", again, err)
	}
	l.Flush(1)
	m, rs, _ := wal.Open(d, 0, 40, 1)
	if len(rs) != 1 || !rec.Same(rs[0], want) {
		t.Fatal(rs)
	}
	rs[0].Slots[0] = 5
	if again, err := m.Get(1); err != api.OK || !rec.Same(again, want) {
		t.Error("what Open answers is the log's", again, err)
	}
}

// P5.4

func TestReserveAndRelease(t *testing.T) {
	_, l := formatted(t)
	for _, c := range []struct {
		what string
		call func(int) api.Errno
		n    int
		want api.Errno
		room int
	}{
		{"Reserve", l.Reserve, -1, api.ErrArg, 108},
		{"Reserve", l.Reserve, math.MinInt, api.ErrArg, 108},
		{"Reserve", l.Reserve, 109, api.ErrLog, 108},
		{"Reserve", l.Reserve, math.MaxInt, api.ErrLog, 108},
		{"Release", l.Release, 1, api.ErrArg, 108},
		{"Release", l.Release, 0, api.OK, 108},
		{"Reserve", l.Reserve, 0, api.OK, 108},
		{"Reserve", l.Reserve, 100, api.OK, 8},
		{"Reserve", l.Reserve, 9, api.ErrLog, 8},
		{"Reserve", l.Reserve, 8, api.OK, 0},
		{"Reserve", l.Reserve, 0, api.OK, 0},
		{"Reserve", l.Reserve, 1, api.ErrLog, 0},
		{"Release", l.Release, -1, api.ErrArg, 0},
		{"Release", l.Release, math.MinInt, api.ErrArg, 0},
		{"Release", l.Release, 109, api.ErrArg, 0},
		{"Release", l.Release, math.MaxInt, api.ErrArg, 0},
		{"Release", l.Release, 8, api.OK, 8},
		{"Release", l.Release, 101, api.ErrArg, 8},
		{"Release", l.Release, 100, api.OK, 108},
	} {
		answers(t, c.what, c.call(c.n), c.want)
		is(t, c.what, l, 1, 1, 1, c.room)
	}
	var none *wal.Log
	answers(t, "Reserve of nothing", none.Reserve(-1), api.ErrNil)
	answers(t, "Release of nothing", none.Release(-1), api.ErrNil)
}

// P5.5

func TestFlush(t *testing.T) {
	d := laid(t)
	l := opens(t, "of nothing", d, 1, 0)
	s := stream(t, 1, small(), with(10), with(20), small())
	flushes := func(what string, to, acts int, want ...string) {
		t.Helper()
		before := d.Acts()
		answers(t, what, l.Flush(to), api.OK)
		if d.Acts()-before != acts || len(d.Pending()) > 0 {
			t.Errorf("%s: %d acts, want %d; %v pending", what, d.Acts()-before, acts, d.Pending())
		}
		stands(t, what, d, want...)
	}
	flushes("nothing", 1, 0)
	flushes("nothing, far", math.MaxInt, 0)
	appended(t, l, small(), 1)
	flushes("ahead of the flushed place", 0, 0)
	flushes("far ahead of it", math.MinInt, 0)
	is(t, "ahead of it", l, 1, 1, 25, 84)
	flushes("from the flushed place on", 1, 2, held(0, s[:24]))
	is(t, "from the flushed place on", l, 1, 25, 25, 84)
	flushes("once more", 25, 0, held(0, s[:24]))

	appended(t, l, with(10), 25)
	appended(t, l, with(20), 59)
	flushes("a place that lasts", 24, 0, held(0, s[:24]))
	is(t, "a place that lasts", l, 1, 25, 103, 6)
	flushes("all, by a place within", 26, 3, held(0, s[:54]), held(1, s[54:102]))
	is(t, "all, by a place within", l, 1, 103, 103, 6)

	answers(t, "Recycle", l.Recycle(59), api.OK)
	appended(t, l, small(), 103)
	flushes("all, by a place far behind", math.MaxInt, 3, held(0, s[:54]), held(1, s[54:108]), held(2, s[108:126]))
	is(t, "all, by a place far behind", l, 59, 127, 127, 40)

	var none *wal.Log
	answers(t, "Flush of nothing", none.Flush(1), api.ErrNil)
}

func TestFlushAtABlocksEdge(t *testing.T) {
	d := laid(t)
	l := opens(t, "of nothing", d, 1, 0)
	s := stream(t, 1, with(30), small())
	appended(t, l, with(30), 1)
	before := d.Acts()
	answers(t, "Flush of just a block", l.Flush(1), api.OK)
	if d.Acts()-before != 2 {
		t.Error("a block without a byte is written", d.Acts()-before)
	}
	stands(t, "just a block", d, held(0, s[:54]))
	appended(t, l, small(), 55)
	before = d.Acts()
	answers(t, "Flush of the next block", l.Flush(55), api.OK)
	if d.Acts()-before != 2 {
		t.Error("a block without a new byte is written", d.Acts()-before)
	}
	stands(t, "the next block", d, held(0, s[:54]), held(1, s[54:]))
}

func TestFlushGoesRound(t *testing.T) {
	d := laid(t)
	l := opens(t, "of nothing", d, 1, 0)
	all := ""
	for l.Tail() <= 12*block {
		r := with(l.Tail() % 40)
		all += encoded(t, r, l.Tail())
		appended(t, l, r, l.Tail())
		answers(t, "Flush", l.Flush(l.Tail()), api.OK)
		want := make([]string, ring)
		for i := range want {
			want[i] = blank
		}
		for k := 0; k*block < len(all); k++ {
			want[k%ring] = held(k, all[k*block:min(len(all), k*block+block)])
		}
		stands(t, "round the ring", d, want...)
		answers(t, "Recycle", l.Recycle(l.Tail()), api.OK)
		is(t, "round the ring", l, len(all)+1, len(all)+1, len(all)+1, 108)
	}
}

func TestFlushOfADeadDisk(t *testing.T) {
	d, l := formatted(t)
	appended(t, l, small(), 1)
	l.Flush(1)
	d.Arm(1)
	d.Sync()
	answers(t, "Flush of nothing on a dead disk", l.Flush(25), api.OK)
	appended(t, l, small(), 25)
	answers(t, "Flush ahead of the flushed place on a dead disk", l.Flush(24), api.OK)
	answers(t, "Flush on a dead disk", l.Flush(25), api.ErrDead)
	is(t, "on a dead disk", l, 1, 25, 49, 60)
	if r, err := l.Get(25); err != api.OK || r.LSN != 25 {
		t.Error("Get on a dead disk", r, err)
	}
	answers(t, "Recycle on a dead disk", l.Recycle(25), api.OK)
}

func TestFlushOfADyingDisk(t *testing.T) {
	for act := 1; act <= 3; act++ {
		d, l := formatted(t)
		appended(t, l, small(), 1)
		l.Flush(1)
		appended(t, l, with(30), 25)
		l.Reserve(5)
		d.Arm(act)
		answers(t, "Flush of a dying disk", l.Flush(25), api.ErrDead)
		is(t, "a dying disk", l, 1, 25, 79, 25)
		for i, at := range d.Pending() {
			if at != from+i {
				t.Error(act, d.Pending())
			}
		}
		if len(d.Pending()) != min(act, 2) {
			t.Error(act, d.Pending())
		}
		d.Crash()
		answers(t, "Flush behind the crash", l.Flush(25), api.OK)
		is(t, "behind the crash", l, 1, 79, 79, 25)
		opens(t, "behind the crash", d, 1, 0, 1, 25)
	}
}

// P5.6, P5.7

func TestGetAndRecycle(t *testing.T) {
	_, l := formatted(t)
	kinds := []api.Kind{api.Insert, api.Mark, api.Undo, api.Clean}
	for i, kind := range kinds {
		if i == 3 {
			l.Flush(1)
		}
		appended(t, l, api.Record{Kind: kind}, 1+24*i)
	}
	gets := func(start int) {
		t.Helper()
		for at := -30; at <= 130; at++ {
			r, err := l.Get(at)
			if at >= start && at < 97 && at%24 == 1 {
				if want := (api.Record{LSN: at, Kind: kinds[at/24]}); err != api.OK || !rec.Same(r, want) {
					t.Errorf("Get(%d): %+v, %v", at, r, err)
				}
				continue
			}
			answers(t, "Get of no record", err, api.ErrGone)
			if !rec.Same(r, api.Record{}) {
				t.Errorf("Get(%d): %+v beside an error", at, r)
			}
		}
	}
	recycles := func(below int, want api.Errno, start, flushed int) {
		t.Helper()
		answers(t, "Recycle", l.Recycle(below), want)
		is(t, "Recycle", l, start, flushed, 97, 108-(97-start))
		gets(start)
	}
	recycles(1, api.OK, 1, 73)
	for _, below := range []int{math.MinInt, -1, 0, 2, 24, 26, 72, 74, 96, 97, 98, math.MaxInt} {
		recycles(below, api.ErrGone, 1, 73)
	}
	recycles(25, api.OK, 25, 73)
	recycles(1, api.ErrGone, 25, 73)
	recycles(24, api.ErrGone, 25, 73)
	recycles(25, api.OK, 25, 73)
	recycles(73, api.OK, 73, 73) // across a block
	recycles(49, api.ErrGone, 73, 73)
	recycles(97, api.ErrGone, 73, 73)
	l.Flush(73)
	recycles(96, api.ErrGone, 73, 97)
	recycles(97, api.OK, 97, 97)
	recycles(73, api.ErrGone, 97, 97)
	recycles(97, api.OK, 97, 97)
	for _, at := range []int{math.MinInt, math.MaxInt} {
		_, err := l.Get(at)
		answers(t, "Get of a place far away", err, api.ErrGone)
	}

	var none *wal.Log
	r, err := none.Get(1)
	answers(t, "Get of nothing", err, api.ErrNil)
	if !rec.Same(r, api.Record{}) {
		t.Error(r)
	}
	answers(t, "Recycle of nothing", none.Recycle(1), api.ErrNil)
}

func TestRecycleLeavesWhatIsReserved(t *testing.T) {
	d, l := formatted(t)
	appended(t, l, with(30), 1)
	appended(t, l, small(), 55)
	l.Reserve(20)
	l.Flush(1)
	acts := d.Acts()
	answers(t, "Recycle", l.Recycle(55), api.OK)
	is(t, "Recycle", l, 55, 79, 79, 64)
	answers(t, "Release of too much", l.Release(21), api.ErrArg)
	answers(t, "Release", l.Release(20), api.OK)
	if d.Acts() != acts {
		t.Error("Recycle has acted")
	}
}

// P5.8

func TestNoLog(t *testing.T) {
	var none *wal.Log
	if none.Tail() != 0 || none.Flushed() != 0 || none.Start() != 0 || none.Room() != 0 {
		t.Error("numbers of no log")
	}
}

// R1: also a log that neither Format nor Open has made must not panic.
func TestZeroLog(t *testing.T) {
	for _, n := range []int{math.MinInt, -1, 0, 1, math.MaxInt} {
		l := new(wal.Log)
		l.Reserve(n)
		l.Release(n)
		l.Append(small())
		l.Get(n)
		l.Recycle(n)
		l.Flush(n)
		l.Append(full())
		if l.Room() < 0 {
			t.Error("room below 0")
		}
	}
}

// P5.9, P5.10

// world is a log in a ring, and what it should be: all records that are there or might be.
type world struct {
	t      *testing.T
	seed   uint32
	d      *disk.Disk
	n      int
	l      *wal.Log
	all    []api.Record // those from the log's start on
	room   int
	opened int
}

// pick is a number below n; a plain rule, so that each run is the same.
func (w *world) pick(n int) int {
	w.seed = w.seed*1664525 + 1013904223
	return int(w.seed>>8) % n
}

func (w *world) record() api.Record {
	kind := api.Kind(1 + w.pick(13))
	r := api.Record{Kind: kind, Xid: w.pick(300), Page: w.pick(300), Data: strings.Repeat("\x00", w.pick(40))}
	for range w.pick(5) {
		r.Slots = append(r.Slots, w.pick(1000))
	}
	return r
}

func (w *world) append() {
	r, room := w.record(), w.l.Room()
	at, err := w.l.Append(r)
	r.LSN = w.l.Tail()
	if err == api.OK {
		r.LSN = at
		w.all = append(w.all, r)
	} else if data, _ := rec.Encode(r); err != api.ErrLog || len(data) <= room {
		w.t.Fatal("Append", err)
	}
	w.room = w.l.Room()
}

func (w *world) reserve() {
	w.l.Reserve(w.pick(30))
	w.room = w.l.Room()
}

func (w *world) recycle() {
	if len(w.all) == 0 {
		return
	}
	i := w.pick(len(w.all))
	if at := w.all[i].LSN; at <= w.l.Flushed() {
		answers(w.t, "Recycle", w.l.Recycle(at), api.OK)
		w.all = w.all[i:]
	}
}

// crash loses, keeps and tears what is pending, and opens the log again, which may die of it some times.
func (w *world) crash() {
	start, flushed := w.l.Start(), w.l.Flushed()
	for {
		fates := make([]int, len(w.d.Pending()))
		for i := range fates {
			fates[i] = w.pick(400)
		}
		w.d.Crash(fates...)
		if w.pick(3) == 0 {
			w.d.Arm(1 + w.pick(w.n+1))
		}
		l, rs, err := wal.Open(w.d, 1, w.n, start)
		if err == api.ErrDead {
			continue
		}
		if err != api.OK || l == nil {
			w.t.Fatal("Open", err)
		}
		w.d.Arm(0)
		w.found(l, rs, flushed)
		return
	}
}

// found holds what Open has answered against what was appended; all of it that was flushed must be there.
func (w *world) found(l *wal.Log, rs []api.Record, flushed int) {
	if len(rs) > len(w.all) || l.Tail() < flushed {
		w.t.Fatal(len(rs), "records of", len(w.all), "tail", l.Tail(), "flushed", flushed)
	}
	for i, r := range rs {
		if !rec.Same(r, w.all[i]) {
			w.t.Fatal(r, w.all[i])
		}
	}
	acts := w.d.Acts()
	m, again, err := wal.Open(w.d, 1, w.n, l.Start())
	if err != api.OK || len(again) != len(rs) || m.Tail() != l.Tail() || w.d.Acts() != acts {
		w.t.Fatal("Open once more", len(again), len(rs), err)
	}
	w.l, w.all = l, w.all[:len(rs)]
	w.room = l.Room()
	w.opened++
}

func (w *world) step() {
	switch w.pick(12) {
	case 0, 1, 2, 3, 4:
		w.append()
	case 5:
		w.reserve()
	case 6:
		w.l.Release(w.pick(30))
	case 7:
		w.l.Flush(w.l.Flushed() + w.pick(60) - 10)
	case 8, 9:
		w.recycle()
	case 10:
		w.d.Arm(1 + w.pick(6))
		if w.l.Flush(w.l.Tail()) == api.OK {
			w.d.Arm(0)
		}
	case 11:
		w.crash()
	}
	if w.l.Room() < 0 || w.l.Room() < w.room {
		w.t.Fatal("room", w.l.Room(), "behind", w.room)
	}
	w.room = w.l.Room()
}

func TestCrashes(t *testing.T) {
	for n := 4; n <= 9; n++ {
		for seed := range 12 {
			d := newDisk(t, n+2)
			l, err := wal.Format(d, 1, n)
			if err != api.OK {
				t.Fatal(err)
			}
			w := &world{t: t, seed: uint32(100*n + seed), d: d, n: n, l: l, room: l.Room()}
			for range 1500 {
				w.step()
			}
			if w.opened < 50 || w.l.Tail() < 4*n*block {
				t.Error("the ring was not gone round", w.opened, w.l.Tail())
			}
			d.Crash()
			if sectors(t, d, 0, 1)+sectors(t, d, n+1, 1) != blank+blank {
				t.Error("sectors around the ring are changed")
			}
		}
	}
}

// Each sector of a Flush is lost, kept, or torn at each of its bytes.
func TestEachTear(t *testing.T) {
	for first := range 2 + api.Sector {
		for second := range 2 + api.Sector {
			d := newDisk(t, size)
			l, _ := wal.Format(d, from, ring+1)
			appended(t, l, with(6), 1)
			l.Flush(1)
			appended(t, l, with(20), 31)
			appended(t, l, small(), 75)
			d.Arm(3)
			answers(t, "Flush", l.Flush(31), api.ErrDead)
			d.Crash(fate(first), fate(second))
			m, rs, err := wal.Open(d, from, ring+1, 1)
			if err != api.OK || len(rs) < 1 || len(rs) > 3 {
				t.Fatal(first, second, len(rs), err)
			}
			for i, at := range []int{1, 31, 75}[:len(rs)] {
				if want, _ := l.Get(at); !rec.Same(rs[i], want) {
					t.Fatal(first, second, rs[i])
				}
			}
			// What was lost must not come back behind what is appended in its place.
			tail := m.Tail()
			appended(t, m, with(1), tail)
			answers(t, "Flush", m.Flush(tail), api.OK)
			again, _, _ := wal.Open(d, from, ring+1, 1)
			if again.Tail() != m.Tail() {
				t.Fatal(first, second, again.Tail(), m.Tail())
			}
		}
	}
}

// fate is a sector's: torn behind so many bytes, or kept.
func fate(i int) int {
	if i > api.Sector {
		return 1
	}
	return 2 + 3*i
}
