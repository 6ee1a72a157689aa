package apply

import (
	"almonry/api"
	"almonry/clog"
	"almonry/node"
	"almonry/page"
	"almonry/tuple"
)

// deed is what a record does to its Page; it may write into the page's list.
type deed func(p api.Page, r api.Record) (api.Page, api.Errno)

// change is the bytes of what becomes of a version.
type change func(t api.Tuple) (string, api.Errno)

// deeds is what each kind of record does to its Page. The kinds that change pages by their images alone, or none, are
// not in it.
func deeds(modulus int) map[api.Kind]deed {
	ended := func(s api.Status) deed {
		return func(p api.Page, r api.Record) (api.Page, api.Errno) { return clog.Set(modulus, p, r.Xid, s) }
	}
	return map[api.Kind]deed{
		api.Insert:     insert,
		api.Mark:       mark,
		api.Undo:       undo,
		api.EntryIn:    enter,
		api.EntryOut:   leave,
		api.Commited:   ended(api.Committed),
		api.RolledBack: ended(api.Aborted),
		api.Clean:      clean,
		api.Freeze:     freeze,
		api.Cut: func(p api.Page, r api.Record) (api.Page, api.Errno) {
			return clog.Cut(modulus, p, r.New)
		},
	}
}

func insert(p api.Page, r api.Record) (api.Page, api.Errno) {
	if _, err := tuple.Decode(r.Data); err != api.OK {
		return api.Page{}, api.ErrTuple
	}
	if r.Slot == len(p.Items) {
		return page.Put(p, r.Slot, r.Data)
	}
	if hasSlot(p, r.Slot) && tuple.State(p.Items[r.Slot]) != api.Free {
		return api.Page{}, api.ErrTuple
	}
	return page.With(p, r.Slot, r.Data)
}

func mark(p api.Page, r api.Record) (api.Page, api.Errno) {
	return changed(p, ending(r.Old, r.New), r.Slot)
}

func undo(p api.Page, r api.Record) (api.Page, api.Errno) {
	if r.Old != 0 || r.New != 0 {
		return mark(p, r)
	}
	return changed(p, dead, r.Slot)
}

func enter(p api.Page, r api.Record) (api.Page, api.Errno) {
	if p.Level == 0 {
		e, err := node.Decode(r.Data)
		if err != api.OK {
			return api.Page{}, err
		}
		return node.Insert(p, e)
	}
	e, child, err := node.Unsep(r.Data)
	if err != api.OK {
		return api.Page{}, err
	}
	return node.Post(p, e, child)
}

func leave(p api.Page, r api.Record) (api.Page, api.Errno) {
	e, err := node.Decode(r.Data)
	if err != api.OK {
		return api.Page{}, err
	}
	return node.Remove(p, e)
}

func clean(p api.Page, r api.Record) (api.Page, api.Errno) {
	for _, slot := range r.Slots {
		if !hasSlot(p, slot) {
			return api.Page{}, api.ErrTuple
		}
		p.Items[slot] = tuple.Free()
	}
	return p, api.OK
}

func freeze(p api.Page, r api.Record) (api.Page, api.Errno) {
	p, err := changed(p, frozen, r.Slots...)
	if err != api.OK {
		return api.Page{}, err
	}
	return changed(p, endless, r.More...)
}

// changed is a page with what becomes of the versions in some of its slots. Nothing grows by that, so that no room is
// asked for.
func changed(p api.Page, become change, slots ...int) (api.Page, api.Errno) {
	for _, slot := range slots {
		if !hasSlot(p, slot) {
			return api.Page{}, api.ErrTuple
		}
		t, err := tuple.Decode(p.Items[slot])
		if err != api.OK {
			return api.Page{}, err
		}
		item, err := become(t)
		if err != api.OK {
			return api.Page{}, err
		}
		p.Items[slot] = item
	}
	return p, api.OK
}

// ending is the change of who has ended a version.
func ending(old, now int) change {
	return func(t api.Tuple) (string, api.Errno) {
		if t.Xmax != old {
			return "", api.ErrTuple
		}
		t.Xmax = now
		return tuple.Encode(t)
	}
}

func dead(t api.Tuple) (string, api.Errno) { return tuple.Dead(t.Key) }

func frozen(t api.Tuple) (string, api.Errno) {
	t.Frozen = true
	return tuple.Encode(t)
}

func endless(t api.Tuple) (string, api.Errno) {
	t.Xmax = 0
	return tuple.Encode(t)
}

func hasSlot(p api.Page, slot int) bool { return slot >= 0 && slot < len(p.Items) }
