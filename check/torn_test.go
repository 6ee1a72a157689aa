package check_test

import (
	"strings"
	"testing"

	"almonry/api"
	"almonry/check"
	"almonry/disk"
)

// P17.7

// torn is the fate of a sector of which so many bytes are the new ones.
func torn(n int) int { return 2 + 3*n }

// history are control blocks that follow one another, of those that are kept in two places.
func history(first int) []api.Control {
	var all []api.Control
	for i := range 4 {
		all = append(all, api.Control{Config: most(), Count: first + i, Start: 250 + 3*i, Check: 65534 + i})
	}
	return all
}

// write lays a control block where it belongs.
func write(t *testing.T, d *disk.Disk, c api.Control) {
	t.Helper()
	if err := d.Write(c.Count%2, encode(t, c)); err != api.OK {
		t.Fatal(err)
	}
}

func sync(t *testing.T, d *disk.Disk) {
	t.Helper()
	if err := d.Sync(); err != api.OK {
		t.Fatal(err)
	}
}

// newestOf is what both places of a disk tell.
func newestOf(t *testing.T, d *disk.Disk) (api.Control, api.Errno) {
	t.Helper()
	data, err := d.Read(0, 2)
	if err != api.OK {
		t.Fatal(err)
	}
	return check.Newest(data[:api.Sector], data[api.Sector:])
}

// crashed is a disk on which all but the last block are synced, and the last one has met a fate.
func crashed(t *testing.T, blocks []api.Control, fate int) *disk.Disk {
	t.Helper()
	d, err := disk.New(2)
	if err != api.OK {
		t.Fatal(err)
	}
	last := len(blocks) - 1
	for _, c := range blocks[:last] {
		write(t, d, c)
		sync(t, d)
	}
	write(t, d, blocks[last])
	d.Crash(fate)
	return d
}

// tornSector is so many bytes of the last block, and what stood in its place ahead of it.
func tornSector(t *testing.T, blocks []api.Control, n int) string {
	t.Helper()
	old := strings.Repeat("\x00", api.Sector)
	last := len(blocks) - 1
	if last >= 2 {
		old = encode(t, blocks[last-2])
	}
	return encode(t, blocks[last])[:n] + old[n:]
}

func TestATornBlockLeavesTheOtherOne(t *testing.T) {
	// The first Counts are such that bytes of Count carry, in each of them.
	for _, first := range []int{1, 2, 125, 252, 253, 254, 255, 256, 65532, 65533, 1<<24 - 3, 1<<24 - 4, 1<<31 - 3, 1<<31 - 4, mostCount - 3} {
		all := history(first)
		for n := 2; n <= len(all); n++ {
			blocks := all[:n]
			before, last := blocks[n-2], blocks[n-1]
			for b := range 65 {
				// All of it is there also when the bytes that are lost are those that stood there.
				want := before
				if tornSector(t, blocks, b) == encode(t, last) {
					want = last
				}
				if n > 2 && (want == last) != (b == 64) {
					t.Fatalf("Count %d over another block is whole behind %d bytes", last.Count, b)
				}
				if c, err := newestOf(t, crashed(t, blocks, torn(b))); c != want || err != api.OK {
					t.Fatalf("Count %d, torn behind %d bytes: %+v %v, want %+v", last.Count, b, c, err, want)
				}
			}
			if c, err := newestOf(t, crashed(t, blocks, 0)); c != before || err != api.OK {
				t.Errorf("Count %d, lost: %+v %v", last.Count, c, err)
			}
			if c, err := newestOf(t, crashed(t, blocks, 1)); c != last || err != api.OK {
				t.Errorf("Count %d, kept: %+v %v", last.Count, c, err)
			}
		}
	}
}

func TestATornFirstBlockIsNone(t *testing.T) {
	// Of a disk of noughts there is no other block to fall back upon.
	first := history(1)[:1]
	for b := range 64 {
		if c, err := newestOf(t, crashed(t, first, torn(b))); c != (api.Control{}) || err != api.ErrForm {
			t.Errorf("torn behind %d bytes: %+v %v", b, c, err)
		}
	}
	if c, err := newestOf(t, crashed(t, first, torn(64))); c != first[0] || err != api.OK {
		t.Errorf("%+v %v", c, err)
	}
}

func TestBlocksThatFollowATornOne(t *testing.T) {
	// Behind a crash the Count that was torn is written again, with other numbers, and may be torn again.
	for b := range 64 {
		for again := range 64 {
			all := history(254)
			d := crashed(t, all[:3], torn(b))
			retried := all[2]
			retried.Start, retried.Check = 0x010203040506, 0x060504030201
			write(t, d, retried)
			d.Crash(torn(again))
			if c, err := newestOf(t, d); c != all[1] || err != api.OK {
				t.Fatalf("torn behind %d and %d bytes: %+v %v", b, again, c, err)
			}
			write(t, d, retried)
			sync(t, d)
			d.Crash()
			if c, err := newestOf(t, d); c != retried || err != api.OK {
				t.Fatalf("torn behind %d and %d bytes, then whole: %+v %v", b, again, c, err)
			}
		}
	}
}
