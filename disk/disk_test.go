package disk_test

import (
	"math"
	"slices"
	"strings"
	"testing"

	"almonry/api"
	"almonry/disk"
)

var (
	a     = strings.Repeat("a", api.Sector)
	b     = strings.Repeat("b", api.Sector)
	c     = strings.Repeat("c", api.Sector)
	zeros = strings.Repeat("\x00", api.Sector)
)

func open(t *testing.T, sectors int) *disk.Disk {
	t.Helper()
	d, err := disk.New(sectors)
	if d == nil || err != api.OK {
		t.Fatalf("New(%d): %v", sectors, err)
	}
	return d
}

func answers(t *testing.T, what string, got, want api.Errno) {
	t.Helper()
	if got != want {
		t.Errorf("%s: %v, want %v", what, got, want)
	}
}

func reads(t *testing.T, d *disk.Disk, at int, want string) {
	t.Helper()
	got, err := d.Read(at, len(want)/api.Sector)
	if got != want || err != api.OK {
		t.Errorf("from %d on: %q %v, want %q", at, got, err, want)
	}
}

func pends(t *testing.T, d *disk.Disk, want ...int) {
	t.Helper()
	if got := d.Pending(); !slices.Equal(got, want) {
		t.Errorf("pending are %v, want %v", got, want)
	}
}

func acted(t *testing.T, d *disk.Disk, want int) {
	t.Helper()
	if got := d.Acts(); got != want {
		t.Errorf("%d acts, want %d", got, want)
	}
}

// marked is a sector that differs from those of another seed at each byte.
func marked(seed int) string {
	bytes := make([]byte, api.Sector)
	for i := range bytes {
		bytes[i] = byte(seed*67 + i)
	}
	return string(bytes)
}

// P2.1

func TestNewIsADiskOfZeros(t *testing.T) {
	for _, n := range []int{1, 2, 4, 1000, 65535, 65536} {
		d := open(t, n)
		if d.Size() != n {
			t.Errorf("New(%d) has the size %d", n, d.Size())
		}
		reads(t, d, 0, strings.Repeat(zeros, n))
		pends(t, d)
		acted(t, d, 0)
		if d.Dead() {
			t.Errorf("New(%d) is dead", n)
		}
		answers(t, "the first act of one not armed", d.Sync(), api.OK)
	}
}

func TestNewOfAWrongSize(t *testing.T) {
	for _, n := range []int{0, -1, 65537, math.MinInt, math.MaxInt} {
		if d, err := disk.New(n); d != nil || err != api.ErrArg {
			t.Errorf("New(%d): %v %v", n, d, err)
		}
	}
}

func TestSizeStaysWhatItIs(t *testing.T) {
	d := open(t, 3)
	d.Write(0, a+b+c)
	d.Arm(1)
	d.Sync()
	if !d.Dead() || d.Size() != 3 {
		t.Errorf("a dead disk has the size %d", d.Size())
	}
	d.Crash(1)
	if d.Size() != 3 {
		t.Errorf("behind a crash: %d", d.Size())
	}
}

func TestDisksAreApart(t *testing.T) {
	first, second := open(t, 2), open(t, 2)
	first.Write(0, a)
	first.Arm(1)
	first.Sync()
	reads(t, second, 0, zeros+zeros)
	pends(t, second)
	acted(t, second, 0)
	answers(t, "Sync of the other one", second.Sync(), api.OK)
}

// P2.2

func TestReadTellsTheNewBytes(t *testing.T) {
	d := open(t, 4)
	d.Write(1, a+b)
	d.Sync()
	d.Write(2, c)
	reads(t, d, 0, zeros+a+c+zeros)
	reads(t, d, 1, a+c)
	reads(t, d, 2, c)
	reads(t, d, 3, zeros)
	pends(t, d, 2)
	acted(t, d, 4)
}

func TestReadOfNothing(t *testing.T) {
	d := open(t, 4)
	for at := range 5 {
		reads(t, d, at, "")
	}
}

func TestReadOfNoSuchSectors(t *testing.T) {
	d := open(t, 4)
	d.Write(0, a+b+a+b)
	for _, x := range [][2]int{
		{0, 5}, {1, 4}, {3, 2}, {4, 1}, {5, 0}, {5, -1}, {-1, 0}, {-1, 1}, {0, -1}, {4, -4},
		{math.MaxInt, 0}, {math.MaxInt, 1}, {math.MaxInt, math.MaxInt}, {1, math.MaxInt}, {0, math.MaxInt},
		{math.MinInt, 0}, {math.MinInt, math.MinInt}, {0, math.MinInt}, {math.MinInt, math.MaxInt},
	} {
		if s, err := d.Read(x[0], x[1]); s != "" || err != api.ErrSector {
			t.Errorf("Read(%d, %d): %q %v", x[0], x[1], s, err)
		}
	}
	answers(t, "a Read is no act: Sync", d.Sync(), api.OK)
	acted(t, d, 5)
}

// P2.3

func TestWriteIsAnActForEachSector(t *testing.T) {
	d := open(t, 5)
	answers(t, "Write", d.Write(3, a+b), api.OK)
	acted(t, d, 2)
	pends(t, d, 3, 4)
	answers(t, "Write", d.Write(0, c), api.OK)
	acted(t, d, 3)
	pends(t, d, 0, 3, 4)
	answers(t, "Write of one that is pending", d.Write(3, c), api.OK)
	acted(t, d, 4)
	pends(t, d, 0, 3, 4)
	reads(t, d, 0, c+zeros+zeros+c+b)
}

func TestWriteOfBytesThatWereThere(t *testing.T) {
	d := open(t, 2)
	answers(t, "Write", d.Write(1, zeros), api.OK)
	pends(t, d, 1)
	acted(t, d, 1)
}

func TestWriteOfNothing(t *testing.T) {
	d := open(t, 4)
	d.Arm(1)
	for at := range 5 {
		answers(t, "Write of nothing", d.Write(at, ""), api.OK)
	}
	acted(t, d, 0)
	pends(t, d)
	answers(t, "the armed act", d.Write(0, a), api.ErrDead)
	answers(t, "Write of nothing to a dead one", d.Write(0, ""), api.ErrDead)
}

func TestWriteToNoSuchSectors(t *testing.T) {
	d := open(t, 4)
	for _, x := range []struct {
		at   int
		data string
	}{
		{3, a + a}, {4, a}, {5, ""}, {-1, ""}, {-1, a}, {-1, a + a}, {0, a + a + a + a + a},
		{0, "a"}, {0, a[1:]}, {0, a + "a"}, {4, "a"}, {-1, "a"},
		{math.MaxInt, ""}, {math.MaxInt, a}, {math.MinInt, ""}, {math.MinInt, a},
	} {
		answers(t, "Write", d.Write(x.at, x.data), api.ErrSector)
	}
	reads(t, d, 0, strings.Repeat(zeros, 4))
	pends(t, d)
	acted(t, d, 0)
}

func TestWrittenSectorsAreWholeAndInTheirPlaces(t *testing.T) {
	d := open(t, 6)
	answers(t, "Write", d.Write(2, marked(1)+marked(2)+marked(3)), api.OK)
	want := zeros + zeros + marked(1) + marked(2) + marked(3) + zeros
	reads(t, d, 0, want)
	d.Sync()
	reads(t, d, 0, want)
}

func TestWriteDiesAtTheArmedAct(t *testing.T) {
	old := []string{marked(1), marked(2), marked(3), marked(4)}
	for act := 1; act <= 4; act++ {
		d := open(t, 4)
		d.Write(0, strings.Join(old, ""))
		d.Sync()
		d.Arm(act)
		want := api.ErrDead
		if act > 3 {
			want = api.OK
		}
		answers(t, "Write", d.Write(1, a+b+c), want)
		written := min(act, 3)
		if d.Dead() != (want == api.ErrDead) {
			t.Errorf("armed at %d: dead is %v", act, d.Dead())
		}
		acted(t, d, 5+written)
		pends(t, d, []int{1, 2, 3}[:written]...)
		d.Crash(1, 1, 1)
		now := slices.Clone(old)
		copy(now[1:], []string{a, b, c}[:written])
		reads(t, d, 0, strings.Join(now, ""))
	}
}

// P2.4

func TestSyncMakesItLast(t *testing.T) {
	d := open(t, 4)
	d.Write(1, a+b)
	answers(t, "Sync", d.Sync(), api.OK)
	pends(t, d)
	acted(t, d, 3)
	reads(t, d, 0, zeros+a+b+zeros)
	d.Crash()
	reads(t, d, 0, zeros+a+b+zeros)
}

func TestSyncOfNothingIsAnAct(t *testing.T) {
	d := open(t, 1)
	for i := range 3 {
		answers(t, "Sync", d.Sync(), api.OK)
		acted(t, d, i+1)
	}
}

func TestSyncThatDiesSyncsNothing(t *testing.T) {
	d := open(t, 3)
	d.Write(0, a+b)
	d.Sync()
	d.Write(1, c+c)
	d.Arm(1)
	answers(t, "Sync", d.Sync(), api.ErrDead)
	pends(t, d, 1, 2)
	acted(t, d, 6)
	d.Crash()
	reads(t, d, 0, a+b+zeros)
}

// P2.5

func TestArmCountsFromNowOn(t *testing.T) {
	for before := range 3 {
		for act := 1; act <= 4; act++ {
			d := open(t, 2)
			for range before {
				d.Sync()
			}
			answers(t, "Arm", d.Arm(act), api.OK)
			for i := 1; i < act; i++ {
				answers(t, "ahead of the armed act", d.Write(0, a), api.OK)
			}
			answers(t, "the armed act", d.Write(1, b), api.ErrDead)
			acted(t, d, before+act)
		}
	}
}

func TestArmInThePlaceOfWhatWasArmed(t *testing.T) {
	d := open(t, 2)
	d.Arm(1)
	d.Arm(3)
	answers(t, "the 1st act", d.Sync(), api.OK)
	answers(t, "the 2nd act", d.Sync(), api.OK)
	d.Arm(2)
	answers(t, "the 3rd act", d.Sync(), api.OK)
	answers(t, "the 4th act", d.Sync(), api.ErrDead)
}

func TestArmAtNone(t *testing.T) {
	d := open(t, 2)
	d.Arm(1)
	answers(t, "Arm(0)", d.Arm(0), api.OK)
	for range 5 {
		answers(t, "Sync", d.Sync(), api.OK)
	}
}

func TestArmOfAWrongNumberChangesNothing(t *testing.T) {
	d := open(t, 2)
	answers(t, "Arm(-1)", d.Arm(-1), api.ErrArg)
	answers(t, "Sync", d.Sync(), api.OK)
	d.Arm(2)
	answers(t, "Arm(-1)", d.Arm(-1), api.ErrArg)
	answers(t, "Arm(least)", d.Arm(math.MinInt), api.ErrArg)
	answers(t, "Sync", d.Sync(), api.OK)
	answers(t, "Sync", d.Sync(), api.ErrDead)
	answers(t, "Arm(-1) of a dead one", d.Arm(-1), api.ErrDead)
}

func TestArmFarAway(t *testing.T) {
	d := open(t, 2)
	d.Sync()
	answers(t, "Arm(most)", d.Arm(math.MaxInt), api.OK)
	for range 5 {
		answers(t, "Sync", d.Sync(), api.OK)
	}
}

// P2.2 to P2.5, P2.7 of a dead disk

func TestADeadDisk(t *testing.T) {
	d := open(t, 2)
	d.Write(0, a)
	d.Arm(1)
	answers(t, "Write", d.Write(1, b), api.ErrDead)
	for range 2 {
		for _, x := range [][2]int{{0, 1}, {0, 0}, {0, 9}, {-1, -1}} {
			if s, err := d.Read(x[0], x[1]); s != "" || err != api.ErrDead {
				t.Errorf("Read(%d, %d): %q %v", x[0], x[1], s, err)
			}
		}
		answers(t, "Write", d.Write(0, c), api.ErrDead)
		answers(t, "Write of no sector", d.Write(7, "c"), api.ErrDead)
		answers(t, "Sync", d.Sync(), api.ErrDead)
		answers(t, "Arm", d.Arm(1), api.ErrDead)
		answers(t, "Arm at none", d.Arm(0), api.ErrDead)
		if !d.Dead() {
			t.Error("it is alive")
		}
		acted(t, d, 2)
		pends(t, d, 0, 1)
	}
	d.Crash(1, 1)
	reads(t, d, 0, a+b)
}

// P2.6

// torn is what a fate makes of a sector, as the promise says it.
func torn(old, fresh string, fate int) string {
	if fate < 0 {
		fate = 0 - fate - 1
	}
	switch fate % 3 {
	case 0:
		return old
	case 1:
		return fresh
	}
	n := fate / 3 % 65
	return fresh[:n] + old[n:]
}

func TestEachFate(t *testing.T) {
	fates := []int{math.MaxInt, math.MaxInt - 1, math.MaxInt - 2, math.MinInt, math.MinInt + 1, math.MinInt + 2}
	for fate := -3 * 65 * 2; fate <= 3*65*2+3; fate++ {
		fates = append(fates, fate)
	}
	old, fresh := marked(1), marked(2)
	for _, fate := range fates {
		d := open(t, 2)
		d.Write(0, old)
		d.Sync()
		d.Write(0, fresh)
		d.Crash(fate)
		if got, _ := d.Read(0, 2); got != torn(old, fresh, fate)+zeros {
			t.Errorf("the fate %d", fate)
		}
	}
}

func TestFatesByName(t *testing.T) {
	for _, x := range []struct {
		fate, kept int
	}{
		{0, 0}, {3, 0}, {-1, 0}, {-4, 0},
		{1, 64}, {4, 64}, {-2, 64}, {-5, 64},
		{2, 0}, {5, 1}, {14, 4}, {-3, 0}, {-6, 1}, {-15, 4}, {191, 63}, {194, 64}, {197, 0}, {200, 1}, {-195, 64},
		{math.MaxInt, 64}, {math.MinInt, 64}, {math.MaxInt - 1, 0}, {math.MinInt + 1, 0},
	} {
		d := open(t, 1)
		d.Write(0, a)
		d.Sync()
		d.Write(0, b)
		d.Crash(x.fate)
		reads(t, d, 0, b[:x.kept]+a[x.kept:])
	}
}

func TestFatesAreForThePendingOnesRising(t *testing.T) {
	d := open(t, 6)
	for at := range 6 {
		d.Write(at, marked(at))
	}
	d.Sync()
	d.Write(5, a)
	d.Write(1, b)
	d.Write(3, c)
	d.Crash(14, 1, 0)
	want := marked(0) + b[:4] + marked(1)[4:] + marked(2) + c + marked(4) + marked(5)
	reads(t, d, 0, want)
}

func TestFatesThatLackOrAreTooMany(t *testing.T) {
	d := open(t, 3)
	d.Write(0, a+a+a)
	d.Crash(1)
	reads(t, d, 0, a+zeros+zeros)
	d.Write(0, b+b+b)
	d.Crash()
	reads(t, d, 0, a+zeros+zeros)
	d.Write(1, c)
	d.Crash(1, 1, 1, 2, 14)
	reads(t, d, 0, a+c+zeros)
	d.Crash(1, 1, 1, 1)
	reads(t, d, 0, a+c+zeros)
}

func TestCrashMakesItAliveAndNotArmed(t *testing.T) {
	d := open(t, 2)
	d.Arm(1)
	d.Write(0, a)
	d.Crash()
	if d.Dead() {
		t.Error("dead behind a crash")
	}
	pends(t, d)
	acted(t, d, 1)
	answers(t, "Sync", d.Sync(), api.OK)

	d.Arm(1)
	d.Crash()
	answers(t, "Sync of one that was armed", d.Sync(), api.OK)
	acted(t, d, 3)
}

func TestCrashOfOneThatIsAlive(t *testing.T) {
	d := open(t, 3)
	d.Write(0, a+b+c)
	d.Crash(0, 1, 8)
	reads(t, d, 0, zeros+b+c[:2]+zeros[2:])
	pends(t, d)
	acted(t, d, 3)
}

func TestFatesAreVariadic(t *testing.T) {
	var crash func(*disk.Disk, ...int) = (*disk.Disk).Crash
	room := []int{-2, 14, -1, 7, 8}
	how := room[:3]
	d := open(t, 4)
	d.Write(0, a+b+c+a)
	crash(d, how...)
	reads(t, d, 0, a+b[:4]+zeros[4:]+zeros+zeros)
	if !slices.Equal(room, []int{-2, 14, -1, 7, 8}) {
		t.Errorf("the fates were written into: %v", room)
	}
}

// P2.7

func TestPendingIsRising(t *testing.T) {
	d := open(t, 65536)
	var want []int
	for i := range 200 {
		at := i * 7919 % 65536
		answers(t, "Write", d.Write(at, a), api.OK)
		want = append(want, at)
	}
	slices.Sort(want)
	pends(t, d, want...)
	acted(t, d, 200)
}

func TestPendingIsTheCallers(t *testing.T) {
	d := open(t, 3)
	d.Write(0, a+b)
	list := d.Pending()
	again := d.Pending()
	list[0] = 2
	_ = append(list[:1], 9)
	if !slices.Equal(again, []int{0, 1}) {
		t.Errorf("the other answer is %v", again)
	}
	pends(t, d, 0, 1)
	d.Crash(1)
	reads(t, d, 0, a+zeros+zeros)
}

func TestActsTellsTheOneAtWhichItDied(t *testing.T) {
	d := open(t, 4)
	d.Arm(3)
	answers(t, "Write", d.Write(0, a+b), api.OK)
	answers(t, "Sync", d.Sync(), api.ErrDead)
	acted(t, d, 3)
	if !d.Dead() {
		t.Error("it is alive")
	}
}

// P2.8

// single is one act: a sector that is written, or a Sync (at below 0).
type single struct {
	at   int
	data string
}

// script is acts of which some are parts of one Write.
func script() [][]single {
	sync := []single{{-1, ""}}
	return [][]single{
		{{0, marked(1)}, {1, marked(2)}}, {{2, marked(3)}}, sync,
		{{1, marked(4)}, {2, marked(5)}}, {{1, marked(6)}}, {{0, marked(7)}}, sync, sync,
		{{0, marked(8)}, {1, marked(9)}, {2, marked(10)}}, {{2, marked(11)}},
	}
}

func perform(d *disk.Disk, acts []single) api.Errno {
	if acts[0].at < 0 {
		return d.Sync()
	}
	data := ""
	for _, x := range acts {
		data += x.data
	}
	return d.Write(acts[0].at, data)
}

// behind is what each of three sectors has, and had written last, when a disk dies at an act of the script.
func behind(act int) (old, fresh [3]string) {
	old = [3]string{zeros, zeros, zeros}
	fresh = old
	for i, x := range slices.Concat(script()...)[:act] {
		switch {
		case x.at >= 0:
			fresh[x.at] = x.data
		case i+1 < act:
			old = fresh
		}
	}
	return old, fresh
}

func TestBehindEachCrash(t *testing.T) {
	for act := 1; act <= len(slices.Concat(script()...)); act++ {
		for _, how := range [][]int{{}, {0, 1, 2}, {1, 1, 1}, {50, 101, 152}, {-3, -90, -2}, {2, 194, 5}} {
			d := open(t, 3)
			d.Arm(act)
			for _, acts := range script() {
				if perform(d, acts) != api.OK {
					break
				}
			}
			if !d.Dead() {
				t.Fatalf("armed at %d, it is alive", act)
			}
			acted(t, d, act)
			want, fresh := behind(act)
			for i, at := range d.Pending() {
				fate := 0
				if i < len(how) {
					fate = how[i]
				}
				want[at] = torn(want[at], fresh[at], fate)
			}
			d.Crash(how...)
			reads(t, d, 0, strings.Join(want[:], ""))
			d.Crash(1, 1, 1)
			reads(t, d, 0, strings.Join(want[:], ""))
		}
	}
}

func TestWhatWasSyncedIsThereBehindAnyCrash(t *testing.T) {
	for fate := range 200 {
		d := open(t, 3)
		d.Write(0, a+b+c)
		d.Sync()
		d.Write(1, zeros)
		d.Crash(fate, fate, fate)
		reads(t, d, 0, a)
		reads(t, d, 2, c)
		d.Crash(fate+1, fate+1, fate+1)
		reads(t, d, 0, a+torn(b, zeros, fate)+c)
	}
}

func TestACrashOfTornSectors(t *testing.T) {
	d := open(t, 1)
	d.Write(0, a)
	d.Sync()
	d.Write(0, b)
	d.Crash(2 + 3*10)
	first := b[:10] + a[10:]
	reads(t, d, 0, first)
	d.Write(0, c)
	d.Crash(2 + 3*5)
	reads(t, d, 0, c[:5]+first[5:])
}

// R1

func TestANilDisk(t *testing.T) {
	var d *disk.Disk
	if s, err := d.Read(0, 1); s != "" || err != api.ErrNil {
		t.Errorf("Read: %q %v", s, err)
	}
	if s, err := d.Read(-1, 0); s != "" || err != api.ErrNil {
		t.Errorf("Read: %q %v", s, err)
	}
	answers(t, "Write", d.Write(0, a), api.ErrNil)
	answers(t, "Write of no sector", d.Write(-1, "a"), api.ErrNil)
	answers(t, "Sync", d.Sync(), api.ErrNil)
	answers(t, "Arm", d.Arm(1), api.ErrNil)
	answers(t, "Arm(-1)", d.Arm(-1), api.ErrNil)
	d.Crash()
	d.Crash(1, 2, 3)
	if d.Size() != 0 || len(d.Pending()) != 0 || d.Dead() || d.Acts() != 0 {
		t.Error("a nil disk has something")
	}
}

func TestADiskThatNewDidNotMake(t *testing.T) {
	var d disk.Disk
	answers(t, "Write", d.Write(0, a), api.ErrSector)
	answers(t, "Write of nothing", d.Write(0, ""), api.OK)
	answers(t, "Arm", d.Arm(1), api.OK)
	answers(t, "Sync", d.Sync(), api.ErrDead)
	d.Crash(1)
	answers(t, "Sync", d.Sync(), api.OK)
	reads(t, &d, 0, "")
}

// The chapter's examples

func TestExampleOfACrash(t *testing.T) {
	d := open(t, 4)
	answers(t, "Write", d.Write(1, a), api.OK)
	answers(t, "Sync", d.Sync(), api.OK)
	answers(t, "Write", d.Write(1, b+b), api.OK)
	pends(t, d, 1, 2)
	acted(t, d, 4)
	d.Crash(14)
	reads(t, d, 1, b[:4]+a[4:]+zeros)
}

func TestExampleOfADeath(t *testing.T) {
	d := open(t, 4)
	answers(t, "Arm", d.Arm(2), api.OK)
	answers(t, "Write", d.Write(0, a+b+a), api.ErrDead)
	answers(t, "Write", d.Write(3, a), api.ErrDead)
	_, err := d.Read(0, 1)
	answers(t, "Read", err, api.ErrDead)
	answers(t, "Sync", d.Sync(), api.ErrDead)
	pends(t, d, 0, 1)
	acted(t, d, 2)
	d.Crash(1, -2)
	reads(t, d, 0, a+b+zeros)
}

func TestExampleOfWrongSectors(t *testing.T) {
	d := open(t, 4)
	answers(t, "Write", d.Write(3, a+a), api.ErrSector)
	answers(t, "Write", d.Write(0, "a"), api.ErrSector)
	reads(t, d, 4, "")
	_, err := d.Read(0, 5)
	answers(t, "Read", err, api.ErrSector)
	answers(t, "Write", d.Write(4, ""), api.OK)
	answers(t, "Arm", d.Arm(-1), api.ErrArg)
}
