package session

import (
	"almonry/api"
	"almonry/blink"
	"almonry/heap"
	"almonry/snap"
)

const (
	root      = 1
	leafLevel = 0
	maxSeen   = 4096   // pages of one way down: a tree has no longer one, but a ring of odd pages has
	leastByte = "\x00" // as a key the first one of all, behind a key what makes the next one of it
)

// way is a way down the tree.
type way struct {
	to    api.Entry
	level int
	seen  int  // pages
	there step // what is done with the node to which it leads
}

// leaf is what is kept of a leaf while its entries are looked at: by then it may have been split, so that its right
// neighbour is not what it was.
type leaf struct {
	hits  []api.Entry // those that are still to be looked at
	more  bool        // whether the right neighbour may have more
	right int
}

// goDown wants the pages that lead to where an entry belongs in a level.
func (p *Plan) goDown(to api.Entry, level int, there step) {
	p.way = way{to: to, level: level, there: there}
	p.see(root, p.down)
}

// down is shown a page on the way.
func (p *Plan) down(v api.View, body api.Page, fresh ...int) (api.Record, bool) {
	p.way.seen++
	next, there, err := blink.Way(body, p.way.level, p.way.to)
	switch {
	case err != api.OK:
		return p.fail(api.ErrPage)
	case there:
		return p.way.there(v, body, fresh...)
	case p.way.seen >= maxSeen:
		return p.fail(api.ErrPage)
	}
	p.see(next, p.down)
	return nothing()
}

// look goes to the leaf in which the versions that the call is about begin.
func (p *Plan) look() {
	from := p.ask.Key
	if from == "" {
		from = leastByte
	}
	p.goDown(api.Entry{Key: from}, leafLevel, p.lookThrough)
}

// lookThrough is shown a leaf.
func (p *Plan) lookThrough(_ api.View, body api.Page, _ ...int) (api.Record, bool) {
	hits, more, err := blink.Hits(body, p.ask.Key, p.below())
	if err != api.OK {
		return p.fail(api.ErrPage)
	}
	p.leaf = leaf{hits: hits, more: more, right: body.Right}
	p.lookOn()
	return nothing()
}

// below is the key that ends what the call is about; empty: nothing does.
func (p *Plan) below() string {
	if p.ask.Call == api.Scan {
		return p.ask.To
	}
	return p.ask.Key + leastByte
}

// lookOn wants the next entry's page, or what is behind the last entry.
func (p *Plan) lookOn() {
	switch {
	case len(p.leaf.hits) > 0:
		p.see(p.leaf.hits[0].Page, p.lookAt)
	case p.leaf.more:
		p.see(p.leaf.right, p.lookThrough)
	default:
		p.looked()
	}
}

// lookAt is shown an entry's page.
func (p *Plan) lookAt(v api.View, body api.Page, _ ...int) (api.Record, bool) {
	e := p.leaf.hits[0]
	p.leaf.hits = p.leaf.hits[1:]
	if t, ok := heap.Look(body, e.Slot, e.Key); ok {
		p.judge(v, e, t)
	}
	if !p.wants(api.WantEnd) {
		p.lookOn()
	}
	return nothing()
}

// judge is what a version is for the call.
func (p *Plan) judge(v api.View, e api.Entry, t api.Tuple) {
	switch {
	case p.changes() && snap.Newer(v, t):
		p.Fail(api.ErrConflict)
	case !snap.Visible(v, t):
	case p.ask.Call == api.Get:
		p.end(api.Reply{Found: true, Value: t.Value})
	case p.ask.Call == api.Scan:
		p.addRow(api.Row{Key: t.Key, Value: t.Value})
	default:
		p.old, p.reply.Found = e, true
	}
}

func (p *Plan) addRow(r api.Row) {
	p.reply.Rows = append(p.reply.Rows, r)
	if len(p.reply.Rows) == p.ask.N {
		p.end(p.reply)
	}
}

// looked goes on when there is nothing more to look at.
func (p *Plan) looked() {
	switch {
	case !p.changes():
		p.end(p.reply)
	case p.reply.Found:
		p.see(p.old.Page, p.mark)
	default:
		p.goOn()
	}
}
