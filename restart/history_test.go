package restart_test

import (
	"math/rand"
	"slices"
	"testing"

	"almonry/api"
	"almonry/apply"
	"almonry/restart"
	"almonry/xid"
)

// P21.4, by a store that logs what its transactions do, crashes anywhere, and restarts, while the ids go round.

const modulus = 16

// idOf is the id of a number; ids are counted on as numbers here, so that all is told without their ring.
func idOf(number int) int { return (number-1)%modulus + 1 }

// work is what one transaction has done: its last record, and which of its changes stand.
type work struct {
	number int
	xid    int
	first  int
	last   int
	stands []int
	ended  bool
}

// moment is what was right just behind a record.
type moment struct {
	tells  int // the number that the record itself tells the next id to be, or above it; 0: none
	next   int
	frozen int
	page   int
	open   []work
}

type store struct {
	t       *testing.T
	random  *rand.Rand
	log     []api.Record
	moments []moment // of each record
	next    int
	frozen  int
	page    int
	open    []*work
	control api.Control
}

func started(t *testing.T, random *rand.Rand) *store {
	return &store{t: t, random: random, next: 1, frozen: 1, page: 2, control: api.Control{Start: 1}}
}

// write logs a record, of a transaction, if there is one.
func (s *store) write(w *work, r api.Record) {
	r.LSN = 1
	if n := len(s.log); n > 0 {
		r.LSN = s.log[n-1].LSN + 1 + s.random.Intn(60)
	}
	tells := 0
	if w != nil {
		r.Xid, r.Prev, w.last = w.xid, w.last, r.LSN
		if w.first == 0 {
			w.first = r.LSN
		}
		if ofOne(r) {
			tells = w.number + 1
		}
	}
	switch r.Kind {
	case api.Insert, api.Mark:
		w.stands = append(w.stands, r.LSN)
	case api.Undo:
		w.stands = w.stands[:len(w.stands)-1]
	case api.Commited, api.RolledBack:
		w.ended = true
		s.open = slices.DeleteFunc(s.open, func(o *work) bool { return o == w })
	case api.Cut:
		tells = s.frozen
	case api.Check:
		tells = s.next
	}
	s.log = append(s.log, r)
	m := s.now()
	m.tells = tells
	s.moments = append(s.moments, m)
}

// now is what is right: of the open ones those of whom the log tells.
func (s *store) now() moment {
	m := moment{next: s.next, frozen: s.frozen, page: s.page}
	for _, w := range s.open {
		tells := func(r api.Record) bool { return r.LSN >= w.first && ofOne(r) && r.Xid == w.xid }
		if w.first > 0 && slices.ContainsFunc(s.log, tells) {
			m.open = append(m.open, work{number: w.number, xid: w.xid, first: w.first, last: w.last, stands: slices.Clone(w.stands)})
		}
	}
	slices.SortFunc(m.open, func(a, b work) int { return a.xid - b.xid })
	return m
}

// deed is one thing that happens.
func (s *store) deed() {
	if len(s.open) == 0 || s.random.Intn(6) == 0 && len(s.open) < 4 {
		s.begin()
		return
	}
	w := s.open[s.random.Intn(len(s.open))]
	switch s.random.Intn(14) {
	case 0, 1, 2:
		s.write(w, api.Record{Kind: api.Insert})
	case 3, 4:
		s.write(w, api.Record{Kind: api.Mark, New: w.xid})
	case 5:
		s.page++
		s.write(w, api.Record{Kind: api.Make, Images: []api.Image{{Page: s.page - 1}}})
	case 6:
		s.write(w, api.Record{Kind: api.EntryIn})
	case 7, 8:
		s.write(w, api.Record{Kind: api.Commited})
	case 9, 10:
		s.back(w)
	case 11:
		s.rollBack(w)
	case 12:
		s.cut()
	case 13:
		s.checkpoint()
	}
}

func (s *store) begin() {
	if s.next-s.frozen < modulus/2-2 {
		s.open = append(s.open, &work{number: s.next, xid: idOf(s.next)})
		s.next++
	} else if len(s.open) == 0 {
		s.cut()
	}
}

// back undoes one record of an open transaction.
func (s *store) back(w *work) {
	n := len(w.stands)
	if n == 0 {
		return
	}
	i := slices.IndexFunc(s.log, func(r api.Record) bool { return r.LSN == w.stands[n-1] })
	r, _ := apply.Back(s.log[i])
	s.write(w, r)
}

func (s *store) rollBack(w *work) {
	for len(w.stands) > 0 {
		s.back(w)
	}
	s.write(w, api.Record{Kind: api.RolledBack})
}

// cut moves the frozen limit on, at most to the oldest who is open.
func (s *store) cut() {
	limit := s.next
	for _, w := range s.open {
		limit = min(limit, w.number)
	}
	if limit > s.frozen {
		s.frozen = limit - s.random.Intn(limit-s.frozen)
		s.write(nil, api.Record{Kind: api.Cut, New: idOf(s.frozen)})
	}
}

// checkpoint is one, from which the next restart begins, or not (that was not written then).
func (s *store) checkpoint() {
	s.write(nil, api.Record{Kind: api.Check, Redo: 1 + s.random.Intn(20), Xid: idOf(s.next), New: s.page, Old: idOf(s.frozen)})
	if s.random.Intn(2) == 0 {
		return
	}
	k := s.log[len(s.log)-1]
	s.control = api.Control{Start: k.LSN, Check: k.LSN}
	for _, w := range s.open {
		if w.first > 0 {
			s.control.Start = min(s.control.Start, w.first)
		}
	}
	if s.random.Intn(3) > 0 {
		s.control.Start = 1
	}
}

// left is the log's records from the control block's Start on, of the first n.
func (s *store) left(n int) []api.Record {
	from := slices.IndexFunc(s.log, func(r api.Record) bool { return r.LSN >= s.control.Start })
	if from < 0 || from > n {
		return nil
	}
	return s.log[from:n]
}

// known is the number of the next id, as far as the records tell that are asked for it.
func (s *store) known() int {
	most := 1
	for i, r := range s.log {
		if r.LSN >= s.control.Start && r.LSN >= s.control.Check && (r.Kind != api.Check || r.LSN == s.control.Check) {
			most = max(most, s.moments[i].tells)
		}
	}
	return most
}

// agrees holds what is found against what was right then.
func (s *store) agrees(f api.Found, m moment) {
	s.t.Helper()
	var losers []api.Begun
	count := 0
	for _, w := range m.open {
		last := 0
		if n := len(w.stands); n > 0 {
			last = w.stands[n-1]
		}
		losers = append(losers, api.Begun{Xid: w.xid, Last: last})
		count += len(w.stands)
	}
	if len(losers) != len(f.Losers) || f.Undoes != count {
		s.t.Fatalf("found %+v; want losers %v, %d to be undone", f, losers, count)
	}
	for i, l := range losers {
		if f.Losers[i].Xid != l.Xid || f.Losers[i].Last < l.Last {
			s.t.Fatalf("found %+v; want losers %v", f, losers)
		}
	}
	known := s.known()
	if f.Page != m.page || f.Frozen != idOf(m.frozen) || f.Xid != idOf(known) || known > m.next {
		s.t.Fatalf("found %+v; want page %d, and of the numbers %d as frozen, %d as next, at most %d", f, m.page, m.frozen, known, m.next)
	}
	if _, err := xid.New(modulus, f.Xid, f.Frozen); err != api.OK {
		s.t.Fatalf("no counter of %+v", f)
	}
}

// find is what a restart finds of the whole log, with its losers' works.
func (s *store) find() (api.Found, map[int]*work) {
	f := restart.Find(modulus, s.control, s.left(len(s.log))...)
	m := s.moments[len(s.moments)-1]
	s.agrees(f, m)
	works := map[int]*work{}
	for _, w := range m.open {
		works[w.xid] = &w
	}
	return f, works
}

// crash forgets all behind the first n records, and all that was in memory.
func (s *store) crash(n int) {
	s.log, s.moments = s.log[:n], s.moments[:n]
	m := s.moments[n-1]
	s.open, s.page, s.frozen, s.next = nil, m.page, m.frozen, s.known()
	for _, w := range m.open {
		s.open = append(s.open, &w)
	}
	tells := m.tells
	s.moments[n-1] = s.now()
	s.moments[n-1].tells = tells
}

// undoAll undoes what restart.Next tells, till a crash at a step: whether it came to the end.
func (s *store) undoAll(f api.Found, steps int) bool {
	done, before := 0, 0
	for {
		at, ok := restart.Next(f.Losers)
		if !ok {
			break
		}
		if before > 0 && at >= before {
			s.t.Fatalf("%d is next behind %d", at, before)
		}
		before = at
		i := slices.IndexFunc(s.log, func(r api.Record) bool { return r.LSN == at })
		r := s.log[i]
		next := r.Prev
		if r.Kind == api.Undo {
			next = r.Next
		}
		if apply.Undoes(r) {
			if done == steps {
				return false
			}
			s.undo(r)
			done++
		}
		f.Losers = restart.Undone(f.Losers, at, next)
	}
	if done != f.Undoes {
		s.t.Fatalf("%d were undone, %d found to be undone", done, f.Undoes)
	}
	return true
}

// undo logs a loser's Undo: what is undone has to be the latest of all that stand.
func (s *store) undo(r api.Record) {
	latest := 0
	var of *work
	for _, w := range s.open {
		if n := len(w.stands); n > 0 && w.stands[n-1] > latest {
			latest, of = w.stands[n-1], w
		}
	}
	if latest != r.LSN || of.xid != r.Xid {
		s.t.Fatalf("%+v is undone, when the latest that stands is %d", r, latest)
	}
	back, _ := apply.Back(r)
	s.write(of, back)
}

// restarts does it, with crashes within.
func (s *store) restarts() {
	for {
		f, works := s.find()
		if !s.undoAll(f, s.random.Intn(12)) {
			s.crash(len(s.log))
			continue
		}
		for _, w := range s.open {
			if len(w.stands) > 0 {
				s.t.Fatalf("%d stands still of %d", w.stands, w.xid)
			}
		}
		ends := s.random.Intn(len(works) + 3)
		for _, l := range f.Losers[:min(ends, len(f.Losers))] {
			i := slices.IndexFunc(s.open, func(w *work) bool { return w.xid == l.Xid })
			s.write(s.open[i], api.Record{Kind: api.RolledBack})
		}
		if ends >= len(f.Losers) {
			break
		}
		s.crash(len(s.log))
	}
	if f, _ := s.find(); len(f.Losers) > 0 || f.Undoes != 0 {
		s.t.Fatalf("behind a restart: %+v", f)
	}
}

func TestHistories(t *testing.T) {
	random := rand.New(rand.NewSource(23))
	for range 150 {
		s := started(t, random)
		for range 30 {
			for range random.Intn(70) {
				s.deed()
			}
			if len(s.log) == 0 {
				continue
			}
			// What was written last is lost, but what the control block tells of is there.
			n := len(s.log) - random.Intn(6)
			n = max(n, 1)
			for s.log[n-1].LSN < s.control.Check {
				n++
			}
			s.crash(n)
			s.restarts()
		}
	}
}
