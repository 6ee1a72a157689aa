package session

import (
	"almonry/api"
	"almonry/blink"
	"almonry/heap"
	"almonry/node"
	"almonry/tuple"
)

// mark is shown the page of the version that is to end.
func (p *Plan) mark(_ api.View, body api.Page, _ ...int) (api.Record, bool) {
	r, err := heap.Mark(body, p.want.Page, p.old.Slot, p.own)
	if err != api.OK {
		return p.fail(err)
	}
	p.goOn()
	return r, true
}

// goOn is what follows when the version that was there is ended, or none was.
func (p *Plan) goOn() {
	if p.ask.Call == api.Delete {
		p.end(p.reply)
		return
	}
	p.wantSpace()
}

// version is the one that is to be laid.
func (p *Plan) version() api.Tuple {
	return api.Tuple{Xmin: p.own, Key: p.ask.Key, Value: p.ask.Value}
}

func (p *Plan) wantSpace() {
	// An own that no version can have makes no bytes: heap.Insert will say so.
	item, _ := tuple.Encode(p.version())
	p.want = api.Want{Kind: api.WantSpace, Size: len(item)}
}

// lay is shown the page that was said to have room for the version.
func (p *Plan) lay(_ api.View, body api.Page, _ ...int) (api.Record, bool) {
	r, err := heap.Insert(body, p.want.Page, p.version())
	switch err {
	case api.OK:
		e := api.Entry{Key: p.ask.Key, Page: r.Page, Slot: r.Slot}
		// A page that no entry can name makes no item: blink will say so.
		item, _ := node.Encode(e)
		p.enter(e, leafLevel, item)
		return r, true
	case api.ErrRoom:
		p.wantSpace()
		return nothing()
	}
	return p.fail(api.ErrPage)
}

// enter goes to the node of a level into which an item has to come.
func (p *Plan) enter(e api.Entry, level int, item string) {
	p.item = item
	p.goDown(e, level, p.layItem)
}

// layItem is shown the node into which the item has to come.
func (p *Plan) layItem(_ api.View, body api.Page, fresh ...int) (api.Record, bool) {
	r, err := blink.Enter(body, p.want.Page, p.item, fresh...)
	switch err {
	case api.OK:
		r.Xid = p.own
		p.tellAbove(r)
		return r, true
	case api.ErrEntry:
		p.end(p.reply)
		return nothing()
	case api.ErrArg:
		// Nothing but the new pages can be meant.
		return p.fail(api.ErrFull)
	}
	return p.fail(api.ErrPage)
}

// tellAbove goes on to the level above, if a record asks for that.
func (p *Plan) tellAbove(r api.Record) {
	e, child, ok := blink.Above(r)
	if !ok {
		p.end(p.reply)
		return
	}
	item, _ := node.Sep(e, child)
	p.enter(e, p.way.level+1, item)
}
