package txn_test

import (
	"math/rand"
	"slices"
	"testing"

	"almonry/api"
	"almonry/txn"
)

// entry is a session's transaction in a list that is read off the chapter's words.
type entry struct {
	who int
	is  api.Txn
}

type model []entry

func (m model) at(who int) int {
	return slices.IndexFunc(m, func(e entry) bool { return e.who == who })
}

func (m *model) begin(who int, s api.Snapshot) api.Errno {
	if m.at(who) >= 0 {
		return api.ErrTxn
	}
	*m = append(*m, entry{who, api.Txn{Snapshot: s}})
	return api.OK
}

func (m model) take(who, xid int) api.Errno {
	i := m.at(who)
	if i < 0 {
		return api.ErrNoTxn
	}
	for j, e := range m {
		if j != i && e.is.Xid == xid {
			return api.ErrArg
		}
	}
	if xid < 1 || m[i].is.Xid > 0 {
		return api.ErrArg
	}
	m[i].is.Xid = xid
	return api.OK
}

func (m model) logged(who, lsn int, undoes bool) api.Errno {
	i := m.at(who)
	if i < 0 {
		return api.ErrNoTxn
	}
	one := &m[i].is
	if one.Xid == 0 || one.Last >= lsn {
		return api.ErrArg
	}
	if one.First == 0 {
		one.First = lsn
	}
	if one.Last = lsn; undoes {
		one.Undoes++
	}
	return api.OK
}

func (m *model) end(who int) (api.Txn, api.Errno) {
	i := m.at(who)
	if i < 0 {
		return api.Txn{}, api.ErrNoTxn
	}
	one := (*m)[i].is
	*m = slices.Delete(*m, i, i+1)
	return one, api.OK
}

// agrees holds all that may be asked of a table against the model.
func (m model) agrees(t *testing.T, x *txn.Table) {
	t.Helper()
	byWho, first := slices.Clone(m), 0
	slices.SortFunc(byWho, func(a, b entry) int { return a.who - b.who })
	var all []api.Snapshot
	var list []api.Begun
	var ids []int
	for _, e := range byWho {
		has(t, x, e.who, e.is)
		all = append(all, e.is.Snapshot)
		if e.is.First > e.is.Last {
			t.Errorf("%v: First is above Last", e)
		}
		if e.is.Xid > 0 {
			list = append(list, api.Begun{Xid: e.is.Xid, Last: e.is.Last})
			ids = append(ids, e.is.Xid)
		}
		if e.is.First > 0 && (first == 0 || e.is.First < first) {
			first = e.is.First
		}
	}
	slices.Sort(ids)
	slices.SortFunc(list, func(a, b api.Begun) int { return a.Xid - b.Xid })
	snaps(t, x, all...)
	run(t, x, ids...)
	begun(t, x, list...)
	oldest(t, x, first)
}

// deed is one call of both; lsns are often the next ones, as a log's are, and often not.
func deed(t *testing.T, random *rand.Rand, x *txn.Table, m *model, at int) {
	t.Helper()
	who := random.Intn(10) - 1
	switch random.Intn(7) {
	case 0, 1:
		s := api.Snapshot{Next: random.Intn(16), Active: random.Perm(random.Intn(4))}
		begins(t, x, who, s, m.begin(who, s))
	case 2, 3:
		xid := random.Intn(14) - 1
		takes(t, x, who, xid, m.take(who, xid))
	case 4, 5:
		lsn, undoes := at+random.Intn(8)-6, random.Intn(2) == 0
		logged(t, x, who, lsn, undoes, m.logged(who, lsn, undoes))
	case 6:
		if want, err := m.end(who); err != api.OK {
			endsNone(t, x, who, err)
		} else {
			ends(t, x, who, want)
		}
	}
}

// Scripts of all calls, held against a list that is gone through.
func TestScripts(t *testing.T) {
	random := rand.New(rand.NewSource(19))
	for range 40 {
		x, m := made(t), model{}
		for at := range 400 {
			deed(t, random, x, &m, at)
			m.agrees(t, x)
			for who := -2; who < 10; who++ {
				if m.at(who) < 0 {
					hasNone(t, x, who)
				}
			}
			if t.Failed() {
				t.Fatalf("the model has %v", m)
			}
		}
	}
}
