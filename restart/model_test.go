package restart_test

import (
	"math/rand"
	"slices"
	"testing"

	"almonry/api"
	"almonry/restart"
)

// A second reading of P21.1 to P21.3, told straight down, by looking through all records each time.

// ahead is chapter 7's Before, told by walking.
func ahead(modulus, a, b int) bool {
	if a < 1 || a > modulus || b < 1 || b > modulus || a == b {
		return false
	}
	for range modulus/2 - 1 {
		a = a%modulus + 1
		if a == b {
			return true
		}
	}
	return false
}

// follower is the id behind one: 0, if that is none.
func follower(modulus, x int) int {
	switch {
	case x < 1 || x > modulus:
		return 0
	case x == modulus:
		return 1
	}
	return x + 1
}

func ofOne(r api.Record) bool {
	return r.Xid > 0 && slices.Contains([]api.Kind{1, 2, 6, 7, 8}, r.Kind)
}

// model is what P21.1 says of a right modulus, of records each of which stands in a place of its own above 0.
func model(modulus int, c api.Control, records []api.Record) api.Found {
	f := api.Found{Redo: c.Start, Xid: 1, Page: 2, Frozen: 1}
	from := 0
	for i, r := range records {
		if c.Check > 0 && r.LSN == c.Check && r.Kind == api.Check {
			f, from = api.Found{Redo: r.Redo, Xid: r.Xid, Page: r.New, Frozen: r.Old}, i
			break
		}
	}
	for i := from; i < len(records); i++ {
		r := records[i]
		if ofOne(r) && (r.Xid == f.Xid || !ahead(modulus, r.Xid, f.Xid)) {
			f.Xid = follower(modulus, r.Xid)
		}
		if r.Kind == api.Cut && ahead(modulus, f.Xid, r.New) {
			f.Xid = r.New
		}
		for _, image := range r.Images {
			if !(image.Page < f.Page) && image.Page < 65536 {
				f.Page = image.Page + 1
			}
		}
		if r.Kind == api.Cut {
			f.Frozen = r.New
		}
	}
	for _, id := range idsOf(records) {
		if last := lastOf(id, records); last >= 0 {
			f.Losers = append(f.Losers, api.Begun{Xid: id, Last: backTo(records[last])})
			f.Undoes += chain(records, backTo(records[last]), nil)
		}
	}
	return f
}

// idsOf is the ids of all records, rising.
func idsOf(records []api.Record) []int {
	var ids []int
	for _, r := range records {
		ids = append(ids, r.Xid)
	}
	slices.Sort(ids)
	return slices.Compact(ids)
}

// lastOf is where the last record of an id stands, if that is not its end; else -1.
func lastOf(id int, records []api.Record) int {
	for i := len(records) - 1; i >= 0; i-- {
		if ofOne(records[i]) && records[i].Xid == id {
			if records[i].Kind == api.Commited || records[i].Kind == api.RolledBack {
				return -1
			}
			return i
		}
	}
	return -1
}

func backTo(r api.Record) int {
	if r.Kind == api.Undo {
		return r.Next
	}
	return r.LSN
}

// chain counts what can be undone from a place on, but for what was met.
func chain(records []api.Record, at int, met []int) int {
	i := slices.IndexFunc(records, func(r api.Record) bool { return r.LSN == at })
	if i < 0 || slices.Contains(met, at) {
		return 0
	}
	met = append(met, at)
	switch records[i].Kind {
	case api.Insert, api.Mark:
		return 1 + chain(records, records[i].Prev, met)
	case api.Undo:
		return chain(records, records[i].Next, met)
	}
	return chain(records, records[i].Prev, met)
}

// anyRecord is one of any kind, of few ids, places and pages, so that much meets.
func anyRecord(random *rand.Rand, modulus, lsn, most int) api.Record {
	r := api.Record{LSN: lsn, Kind: api.Kind(random.Intn(15)), Xid: random.Intn(6), New: 1 + random.Intn(modulus), Old: 1 + random.Intn(modulus), Redo: random.Intn(most)}
	if random.Intn(4) == 0 {
		r.Xid = random.Intn(modulus + 3)
	}
	if random.Intn(3) > 0 {
		r.Kind = []api.Kind{api.Insert, api.Mark, api.Undo}[random.Intn(3)]
	}
	r.Prev, r.Next = random.Intn(lsn), random.Intn(lsn)
	if random.Intn(20) == 0 {
		r.Prev, r.Next = random.Intn(most), random.Intn(most)
	}
	for random.Intn(4) == 0 {
		r.Images = append(r.Images, api.Image{Page: random.Intn(20)})
	}
	if random.Intn(20) == 0 {
		r.Images = append(r.Images, api.Image{Page: 65530 + random.Intn(10)})
	}
	return r
}

func TestFindOfAnyRecords(t *testing.T) {
	random := rand.New(rand.NewSource(21))
	for range 20000 {
		modulus := []int{16, 18, 40, 1024}[random.Intn(4)]
		var records []api.Record
		most := random.Intn(40)
		for i := range most {
			records = append(records, anyRecord(random, modulus, i+1, most+3))
		}
		if random.Intn(5) == 0 {
			random.Shuffle(len(records), func(i, k int) { records[i], records[k] = records[k], records[i] })
		}
		c := api.Control{Start: random.Intn(most + 1), Check: random.Intn(most+2) - 1}
		for _, r := range records {
			if r.Kind == api.Check && random.Intn(2) == 0 {
				c.Check = r.LSN
			}
		}
		finds(t, modulus, c, model(modulus, c, records), records...)
		if t.Failed() {
			return
		}
	}
}

func TestNextAndUndoneOfAnyLosers(t *testing.T) {
	random := rand.New(rand.NewSource(22))
	for range 5000 {
		var losers []api.Begun
		for range random.Intn(6) {
			losers = append(losers, api.Begun{Xid: random.Intn(9), Last: random.Intn(8) - 2})
		}
		var lasts []int
		for _, l := range losers {
			if l.Last > 0 {
				lasts = append(lasts, l.Last)
			}
		}
		slices.Sort(lasts)
		want := 0
		if len(lasts) > 0 {
			want = lasts[len(lasts)-1]
		}
		tells(t, losers, want)

		at, next := random.Intn(8)-2, random.Intn(8)-2
		behind := slices.Clone(losers)
		for i := range behind {
			if behind[i].Last == at {
				behind[i].Last = next
				break
			}
		}
		leaves(t, losers, at, next, behind...)
		if n, ok := restart.Next(losers); ok {
			// Undoing goes on downwards, as long as what is next stands ahead.
			after, _ := restart.Next(restart.Undone(losers, n, n-1))
			if after > n {
				t.Errorf("Next of %v: %d, then %d", losers, n, after)
			}
		}
	}
}
