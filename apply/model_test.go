package apply_test

import (
	"math/rand"
	"slices"
	"strings"
	"testing"

	"almonry/api"
	"almonry/apply"
	"almonry/node"
	"almonry/page"
	"almonry/rec"
	"almonry/tuple"
)

// A second reading of the chapter: versions and statuses as bytes, nodes as lists that are sorted.

func doModel(modulus int, p api.Page, on int, r api.Record) (api.Page, api.Errno) {
	for _, image := range r.Images {
		if image.Page == on {
			return later(image.Body, r.LSN), api.OK
		}
	}
	if p.LSN >= r.LSN || r.Page != on || !slices.Contains(touching, r.Kind) {
		return p, api.OK
	}
	p.Items = slices.Clone(p.Items)
	err := api.OK
	switch r.Kind {
	case api.Insert:
		err = insertModel(&p, r)
	case api.Mark:
		err = markModel(p, r.Slot, r.Old, r.New)
	case api.Undo:
		err = undoModel(p, r)
	case api.EntryIn:
		err = enterModel(&p, r.Data)
	case api.EntryOut:
		err = leaveModel(&p, r.Data)
	case api.Commited:
		err = statusModel(modulus, p, r.Xid, 2)
	case api.RolledBack:
		err = statusModel(modulus, p, r.Xid, 3)
	case api.Clean:
		err = cleanModel(p, r.Slots)
	case api.Freeze:
		err = freezeModel(p, r.Slots, r.More)
	case api.Cut:
		err = cutModel(modulus, p, r.New)
	}
	if err != api.OK {
		return api.Page{}, err
	}
	return later(p, r.LSN), api.OK
}

func there(p api.Page, slot int) bool { return 0 <= slot && slot < len(p.Items) }

func isLive(p api.Page, slot int) bool {
	return there(p, slot) && tuple.State(p.Items[slot]) == api.Live
}

func insertModel(p *api.Page, r api.Record) api.Errno {
	switch {
	case tuple.State(r.Data) != api.Live || there(*p, r.Slot) && p.Items[r.Slot] != "":
		return api.ErrTuple
	case r.Slot < 0 || r.Slot > len(p.Items):
		return api.ErrArg
	}
	if r.Slot == len(p.Items) {
		p.Items = append(p.Items, "")
	}
	p.Items[r.Slot] = r.Data
	if page.Size(*p) > 512 || len(p.Items) > 255 {
		return api.ErrLong
	}
	return api.OK
}

// A version's bytes: what it is in the first one, Xmin in the next two, Xmax in the two behind.

func markModel(p api.Page, slot, old, now int) api.Errno {
	if !isLive(p, slot) || now < 0 || now > 1024 {
		return api.ErrTuple
	}
	item := p.Items[slot]
	if int(item[3])*256+int(item[4]) != old {
		return api.ErrTuple
	}
	p.Items[slot] = item[:3] + string([]byte{byte(now / 256), byte(now % 256)}) + item[5:]
	return api.OK
}

func undoModel(p api.Page, r api.Record) api.Errno {
	if r.Old != 0 || r.New != 0 {
		return markModel(p, r.Slot, r.Old, r.New)
	}
	if !isLive(p, r.Slot) {
		return api.ErrTuple
	}
	item := p.Items[r.Slot]
	p.Items[r.Slot] = "\x04" + item[5:6+int(item[5])]
	return api.OK
}

func cleanModel(p api.Page, slots []int) api.Errno {
	for i := range p.Items {
		if slices.Contains(slots, i) {
			p.Items[i] = ""
		}
	}
	if slices.ContainsFunc(slots, func(slot int) bool { return !there(p, slot) }) {
		return api.ErrTuple
	}
	return api.OK
}

func freezeModel(p api.Page, slots, more []int) api.Errno {
	for _, slot := range slices.Concat(slots, more) {
		if !isLive(p, slot) {
			return api.ErrTuple
		}
	}
	for i, item := range p.Items {
		if slices.Contains(slots, i) {
			item = "\x03" + item[1:]
		}
		if slices.Contains(more, i) {
			item = item[:3] + "\x00\x00" + item[5:]
		}
		p.Items[i] = item
	}
	return api.OK
}

// isNode leaves out how long the page is, and its LSN.
func isNode(p api.Page) bool {
	if p.Level == 0 {
		_, err := node.Entries(p)
		return err == api.OK
	}
	_, _, err := node.Kids(p)
	return err == api.OK
}

func enterModel(p *api.Page, data string) api.Errno {
	if !isNode(*p) {
		return api.ErrNode
	}
	said := func(item string) api.Entry {
		e, err := node.Decode(item)
		if p.Level > 0 {
			e, _, err = node.Unsep(item)
		}
		if err != api.OK {
			return api.Entry{Key: "\xFF", Page: -1}
		}
		return e
	}
	p.Items = append(p.Items, data)
	slices.SortStableFunc(p.Items, func(a, b string) int { return node.Compare(said(a), said(b)) })
	switch {
	case !isNode(*p):
		return api.ErrNode
	case page.Size(*p) > 512 || len(p.Items) > 255:
		return api.ErrLong
	}
	return api.OK
}

func leaveModel(p *api.Page, data string) api.Errno {
	if !isNode(*p) || p.Level != 0 || !slices.Contains(p.Items, data) {
		return api.ErrNode
	}
	p.Items = slices.DeleteFunc(p.Items, func(item string) bool { return item == data })
	return api.OK
}

// isClog knows limits of one byte alone, and moduli of whole bytes of statuses.
func isClog(modulus int, p api.Page) bool {
	if p.Kind != api.ClogPage || p.LSN < 0 || p.Level != 0 || p.Right != 0 || p.High != "" || len(p.Items) != 2 {
		return false
	}
	limit, bits := p.Items[0], p.Items[1]
	return len(limit) == 1 && limit[0] > 0 && int(limit[0]) <= modulus && len(bits) == modulus/4
}

func clogErr(modulus int, p api.Page, x int) api.Errno {
	switch {
	case modulus != 16 && modulus != 20:
		return api.ErrArg
	case !isClog(modulus, p):
		return api.ErrBody
	case x < 1 || x > modulus:
		return api.ErrArg
	}
	return api.OK
}

func lay(p api.Page, x, status int) {
	statuses := []byte(p.Items[1])
	low := 1
	for range (x - 1) % 4 {
		low *= 4
	}
	old := int(statuses[(x-1)/4]) / low % 4
	statuses[(x-1)/4] = byte(int(statuses[(x-1)/4]) + (status-old)*low)
	p.Items[1] = string(statuses)
}

func statusModel(modulus int, p api.Page, x, status int) api.Errno {
	if err := clogErr(modulus, p, x); err != api.OK {
		return err
	}
	lay(p, x, status)
	return api.OK
}

func cutModel(modulus int, p api.Page, limit int) api.Errno {
	if err := clogErr(modulus, p, limit); err != api.OK {
		return err
	}
	for x := int(p.Items[0][0]); x != limit; x = x%modulus + 1 {
		lay(p, x, 0)
	}
	p.Items[0] = string([]byte{byte(limit)})
	return api.OK
}

func touchesModel(r api.Record) []int {
	var pages []int
	for n := -1; n <= 9; n++ {
		own := n == r.Page && slices.Contains(touching, r.Kind)
		if own || slices.ContainsFunc(r.Images, func(image api.Image) bool { return image.Page == n }) {
			pages = append(pages, n)
		}
	}
	return pages
}

// drawn makes pages and records by chance, such that much of what they say can be done.
type drawn struct{ *rand.Rand }

func (d drawn) one(in int) bool { return d.Intn(in) == 0 }

func (d drawn) number(list ...int) int { return list[d.Intn(len(list))] }

func (d drawn) text(list ...string) string { return list[d.Intn(len(list))] }

func (d drawn) version() string {
	v := api.Tuple{Xmin: 1 + d.Intn(4), Xmax: d.number(0, 0, 1, 2, 300), Frozen: d.one(3)}
	v.Key, v.Value = d.text("a", "b", strings.Repeat("k", 24)), d.text("", "x", strings.Repeat("v", 64))
	return bytesOf(v)
}

func (d drawn) slotItem() string {
	switch d.Intn(8) {
	case 0, 1:
		return ""
	case 2:
		return deadOf(d.text("a", "b"))
	case 3:
		return d.text(notLive()...)
	}
	return d.version()
}

func (d drawn) entry() api.Entry {
	return entry(d.text("a", "ab", "b", "c", strings.Repeat("c", 24), strings.Repeat("k", 23)), d.Intn(4), d.Intn(4))
}

func (d drawn) nodeItem(level int) string {
	if level == 0 {
		return itemOf(d.entry())
	}
	return sepOf(d.entry(), 30+d.Intn(3))
}

func (d drawn) heap() api.Page {
	p := heapPage()
	for range d.number(0, 1, 2, 3, 5, 8, 12, 16) {
		p.Items = append(p.Items, d.slotItem())
	}
	return p
}

func (d drawn) node() api.Page {
	p := api.Page{Kind: api.NodePage, Level: d.number(0, 0, 1, 2)}
	if p.Level > 0 {
		p.Items = []string{sepOf(api.Entry{}, 30)}
	}
	if d.one(3) {
		p.Right, p.High = 9, itemOf(d.entry())
	}
	var list []api.Entry
	for range d.number(0, 1, 2, 5, 20, 40, 60) {
		list = append(list, d.entry())
	}
	slices.SortFunc(list, node.Compare)
	for _, e := range slices.Compact(list) {
		item := itemOf(e)
		if p.Level > 0 {
			item = sepOf(e, 30+d.Intn(3))
		}
		if q, err := page.Put(p, len(p.Items), item); err == api.OK && isNode(q) {
			p = q
		}
	}
	return p
}

func (d drawn) clog() api.Page {
	return api.Page{Kind: api.ClogPage, Items: []string{string([]byte{byte(1 + d.Intn(16))}), string([]byte{byte(d.Intn(256)), byte(d.Intn(256)), 0, byte(d.Intn(256))})}}
}

func (d drawn) page() api.Page {
	p := [](func() api.Page){d.heap, d.node, d.clog}[d.Intn(3)]()
	p.LSN = d.number(0, 5, 8, 8, 9, 10)
	if !d.one(10) {
		return p
	}
	switch d.Intn(6) {
	case 0:
		p.LSN = -1
	case 1:
		p.Kind = d.Intn(5)
	case 2:
		p.Level = d.number(-1, 0, 1, 256)
	case 3:
		p.Right, p.High = d.number(-1, 7, 65536), d.text("", "x", "\x00\x00\x00")
	case 4:
		p.Items = append(p.Items, d.text("", "x", strings.Repeat("z", 500)))
	case 5:
		p.Items = append(p.Items, slices.Repeat([]string{""}, d.number(200, 250, 260))...)
	}
	return p
}

func (d drawn) slots(p api.Page) []int {
	var list []int
	for range d.Intn(4) {
		list = append(list, d.slot(p))
	}
	return list
}

func (d drawn) slot(p api.Page) int {
	if d.one(20) {
		return d.number(-1, len(p.Items)+1, 300)
	}
	if d.one(3) {
		return tuple.Slot(p)
	}
	return d.Intn(len(p.Items) + 1)
}

func (d drawn) data(p api.Page) string {
	if len(p.Items) > 0 && d.one(3) {
		return d.text(p.Items...)
	}
	return d.text(d.version(), d.version(), d.slotItem(), d.nodeItem(0), d.nodeItem(0), d.nodeItem(1), d.nodeItem(1), "x")
}

// record is one that suits the page's kind more often than not.
func (d drawn) record(p api.Page) api.Record {
	r := api.Record{LSN: 9, Page: 7, Xid: d.Intn(18), Slot: d.slot(p), Old: d.number(0, 0, 1, 2, 300), New: d.number(0, 0, 1, 4, 16, 1024, 1025, -1)}
	r.Data, r.Slots, r.More = d.data(p), d.slots(p), d.slots(p)
	r.Kind = api.Kind(d.Intn(16))
	if !d.one(4) {
		suits := [][]api.Kind{
			api.ClogPage: {api.Commited, api.RolledBack, api.Cut},
			api.HeapPage: {api.Insert, api.Mark, api.Undo, api.Clean, api.Freeze},
			api.NodePage: {api.EntryIn, api.EntryOut},
		}
		list := suits[max(1, min(3, p.Kind))]
		r.Kind = list[d.Intn(len(list))]
	}
	for d.one(8) {
		r.Images = append(r.Images, api.Image{Page: d.number(-1, 0, 7, 7, 9), Body: d.page()})
	}
	return r
}

func TestModel(t *testing.T) {
	d := drawn{rand.New(rand.NewSource(16))}
	type outcome struct {
		kind api.Kind
		err  api.Errno
	}
	met := map[outcome]int{}
	for range 60000 {
		p := d.page()
		r := d.record(p)
		on := d.number(7, 7, 7, 7, 7, 7, 0, 9)
		modulus := d.number(16, 16, 16, 16, 16, 16, 20, 15, 0)
		want, wantErr := doModel(modulus, p, on, r)
		got, err := do(t, modulus, p, on, r)
		if err != wantErr || !page.Same(got, want) {
			t.Fatalf("Do(%d, %+v, %d, %+v): %+v %v, want %+v %v", modulus, p, on, r, got, err, want, wantErr)
		}
		touches(t, r, touchesModel(r)...)
		if err != api.OK || got.LSN > p.LSN {
			met[outcome{r.Kind, err}]++
		}
		if again, err2 := apply.Do(modulus, got, on, r); err == api.OK && (err2 != api.OK || !page.Same(again, got)) {
			t.Fatalf("Do(%d, %+v, %d, %+v), again: %+v %v, was %+v", modulus, p, on, r, again, err2, got)
		}
		undoneIsThere(t, d, p, r, got, err)
	}
	for kind, errs := range map[api.Kind][]api.Errno{
		api.Insert:     {api.OK, api.ErrTuple, api.ErrArg, api.ErrLong},
		api.Mark:       {api.OK, api.ErrTuple},
		api.Undo:       {api.OK, api.ErrTuple},
		api.EntryIn:    {api.OK, api.ErrNode, api.ErrLong},
		api.EntryOut:   {api.OK, api.ErrNode},
		api.Commited:   {api.OK, api.ErrArg, api.ErrBody},
		api.RolledBack: {api.OK, api.ErrArg, api.ErrBody},
		api.Clean:      {api.OK, api.ErrTuple},
		api.Freeze:     {api.OK, api.ErrTuple},
		api.Cut:        {api.OK, api.ErrArg, api.ErrBody},
	} {
		for _, err := range errs {
			if met[outcome{kind, err}] < 20 {
				t.Errorf("kind %d came to %v %d times", kind, err, met[outcome{kind, err}])
			}
		}
	}
}

// undoneIsThere asks P16.4 of a record that was done by what its kind does.
func undoneIsThere(t *testing.T, d drawn, p api.Page, r api.Record, done api.Page, err api.Errno) {
	t.Helper()
	back, noBack := apply.Back(r)
	// A Mark from nobody to nobody is undone as an Insert would be: P16.3 gives its Undo no other look.
	nothing := r.Kind == api.Mark && r.Old == 0 && r.New == 0
	if err != api.OK || noBack != api.OK || len(r.Images) > 0 || done.LSN <= p.LSN || nothing {
		return
	}
	back.LSN = r.LSN + 1 + d.Intn(5)
	want := later(p, back.LSN)
	if r.Kind == api.Insert {
		v := sure(tuple.Decode(r.Data))
		want = in(later(done, back.LSN), r.Slot, deadOf(v.Key))
	}
	if got, err := apply.Do(16, done, 7, back); err != api.OK || !page.Same(got, want) {
		t.Fatalf("%+v undone: %+v %v, want %+v", r, got, err, want)
	}
	if !rec.Same(back, api.Record{LSN: back.LSN, Kind: api.Undo, Xid: r.Xid, Page: r.Page, Slot: r.Slot, Old: back.Old, New: back.New}) {
		t.Fatalf("Back of %+v: %+v", r, back)
	}
}
