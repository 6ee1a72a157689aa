package blink_test

import (
	"fmt"
	"math/rand"
	"slices"
	"strings"
	"testing"

	"almonry/api"
	"almonry/blink"
	"almonry/node"
	"almonry/page"
	"almonry/rec"
)

// A second reading of the chapter, from lists of entries.

// content is what a node says: entries, or separators and children, and what bounds it (the least: nothing).
type content struct {
	list []api.Entry
	kids []int
	high api.Entry
}

func contentOf(p api.Page) (content, bool) {
	if node.Check(p) != api.OK {
		return content{}, false
	}
	var c content
	for _, item := range p.Items {
		e, err := node.Decode(item)
		if p.Level > 0 {
			var child int
			e, child, err = node.Unsep(item)
			c.kids = append(c.kids, child)
		}
		if err != api.OK {
			panic("a node's item can't be read")
		}
		c.list = append(c.list, e)
	}
	c.high, _ = node.Decode(p.High)
	return c, true
}

func (c content) beyond(e api.Entry) bool { return c.high != least && node.Compare(c.high, e) < 0 }

func isEntry(e api.Entry) bool {
	_, err := node.Encode(e)
	return err == api.OK
}

func wayModel(p api.Page, level int, e api.Entry) (int, bool, api.Errno) {
	c, ok := contentOf(p)
	switch {
	case !ok || level < 0 || level > p.Level:
		return 0, false, api.ErrNode
	case isEntry(e) && c.beyond(e):
		return p.Right, false, api.OK
	case level == p.Level:
		return 0, true, api.OK
	case !isEntry(e):
		return 0, false, api.ErrNode
	}
	last := 0
	for i, s := range c.list {
		if node.Compare(s, e) < 0 {
			last = c.kids[i]
		}
	}
	return last, false, api.OK
}

// needModel is also the node with the item, and the item's entry.
func needModel(p api.Page, on int, item string) (int, api.Page, api.Entry, api.Errno) {
	none := api.Page{}
	c, ok := contentOf(p)
	if !ok {
		return 0, none, least, api.ErrNode
	}
	e, err := node.Decode(item)
	if p.Level > 0 {
		e, _, err = node.Unsep(item)
	}
	if err != api.OK {
		return 0, none, least, api.ErrNode
	}
	if e == least || c.beyond(e) || p.Level > 0 && e == c.high {
		return 0, none, least, api.ErrNode
	}
	if slices.Contains(c.list, e) {
		return 0, none, least, api.ErrEntry
	}
	at := 0
	for at < len(c.list) && node.Compare(c.list[at], e) < 0 {
		at++
	}
	p.Items = slices.Insert(slices.Clone(p.Items), at, item)
	need := 0
	if page.Size(p) > 512 {
		need = 1
		if on == 1 {
			need = 2
		}
	}
	return need, p, e, api.OK
}

func enterModel(p api.Page, on int, item string, fresh []int) (api.Record, api.Errno) {
	need, _, e, err := needModel(p, on, item)
	if err != api.OK {
		return api.Record{}, err
	}
	if len(fresh) != need || need > 0 && slices.Min(fresh) < 2 || need == 2 && fresh[0] == fresh[1] {
		return api.Record{}, api.ErrArg
	}
	if need == 0 {
		return api.Record{Kind: api.EntryIn, Page: on, Data: item}, api.OK
	}
	if slices.Max(fresh) > 65535 || need == 2 && p.Level == 255 {
		return api.Record{}, api.ErrNode
	}
	c, _ := contentOf(p)
	k := (len(p.Items) + 1) / 2
	last := fresh[need-1]
	left := api.Page{Kind: 3, Level: p.Level, Right: last, Items: p.Items[:k]}
	right := api.Page{Kind: 3, Level: p.Level, Right: p.Right, High: p.High, Items: slices.Clone(p.Items[k:])}
	border := c.list[k-1]
	if p.Level > 0 {
		border = c.list[k]
		right.Items[0] = sepOf(least, c.kids[k])
	}
	left.High = itemOf(border)
	if node.Compare(e, border) > 0 {
		_, right, _, _ = needModel(right, 0, item)
	} else {
		_, left, _, _ = needModel(left, 0, item)
	}
	images := []api.Image{{Page: on, Body: left}, {Page: last, Body: right}}
	if need == 2 {
		images[0].Page = fresh[0]
		root := api.Page{Kind: 3, Level: p.Level + 1, Items: []string{sepOf(least, fresh[0]), sepOf(border, last)}}
		images = append(images, api.Image{Page: 1, Body: root})
	}
	return api.Record{Kind: api.Split, Images: images}, api.OK
}

func leaveModel(p api.Page, on int, e api.Entry) (api.Record, api.Errno) {
	c, ok := contentOf(p)
	if !ok || p.Level > 0 {
		return api.Record{}, api.ErrNode
	}
	if !slices.Contains(c.list, e) {
		return api.Record{}, api.ErrEntry
	}
	return api.Record{Kind: api.EntryOut, Page: on, Data: itemOf(e)}, api.OK
}

func hitsModel(p api.Page, from, to string) ([]api.Entry, bool, api.Errno) {
	c, ok := contentOf(p)
	if !ok || p.Level > 0 {
		return nil, false, api.ErrNode
	}
	hits := slices.DeleteFunc(c.list, func(e api.Entry) bool { return e.Key < from || to != "" && e.Key >= to })
	more := p.Right > 0 && (to == "" || p.High != "" && c.high.Key < to)
	return hits, more, api.OK
}

// someEntry is one of few, so that it is met again; seldom none.
func someEntry(random *rand.Rand) api.Entry {
	keys := []string{"a", "ab", "b", "b\x00", "c", "\x00", "\xFF", longKey, strings.Repeat("b", 24)}
	numbers := []int{0, 1, 127, 128, 300, 65535}
	if random.Intn(30) == 0 {
		wrong := wrongEntries()
		return wrong[random.Intn(len(wrong))]
	}
	return entry(keys[random.Intn(len(keys))], numbers[random.Intn(len(numbers))], numbers[random.Intn(len(numbers))])
}

// someNode is a node, of up to so many items; of the level 0, or above; often a full one.
func someNode(random *rand.Rand, most int) api.Page {
	list := []api.Entry{entry("b", 1, 0)}
	for range most {
		if e := someEntry(random); isEntry(e) {
			list = append(list, e)
		}
	}
	slices.SortFunc(list, node.Compare)
	list = slices.Compact(list)
	p := leafOf(list...)
	if random.Intn(2) == 0 {
		p = innerOf(list...)
		p.Level = []int{1, 1, 2, 254, 255}[random.Intn(5)]
	}
	p.Right = random.Intn(3) * 32767
	if random.Intn(2) == 0 {
		p.High = p.Items[len(p.Items)-1]
		if p.Level > 0 {
			p.High = itemOf(entry("\xFF", 65535, 65535))
			p.Items = slices.DeleteFunc(p.Items, func(item string) bool { return strings.HasPrefix(item, p.High) })
		}
	}
	for page.Size(p) > 512 {
		at := 1 + random.Intn(len(p.Items)-1)
		p.Items = slices.Delete(p.Items, at, at+1)
	}
	return p
}

// spoilt is a page with a fault, mostly.
func spoilt(random *rand.Rand, p api.Page) api.Page {
	p.Items = slices.Clone(p.Items)
	e := someEntry(random)
	if !isEntry(e) {
		e = entry("b", 1, 0)
	}
	switch random.Intn(7) {
	case 0:
		p.Kind = random.Intn(5)
	case 1:
		p.Level = []int{-1, 0, 1, 255, 256}[random.Intn(5)]
	case 2:
		p.Right = []int{-1, 0, 65535, 65536}[random.Intn(4)]
	case 3:
		p.High = itemOf(e)
	case 4:
		p.LSN = random.Intn(3) - 2
	case 5:
		p.Items = append(p.Items, itemOf(e))
	case 6:
		a, b := random.Intn(len(p.Items)), random.Intn(len(p.Items))
		p.Items[a], p.Items[b] = p.Items[b], p.Items[a]
	}
	return p
}

func someItem(random *rand.Rand, p api.Page) string {
	e := someEntry(random)
	item, _ := node.Encode(e)
	if (p.Level > 0) != (random.Intn(20) == 0) {
		item, _ = node.Sep(e, 1+random.Intn(65535))
	}
	return item
}

func someFresh(random *rand.Rand, need int) []int {
	if random.Intn(10) == 0 {
		need = random.Intn(4)
	}
	list := make([]int, need)
	for i := range list {
		list[i] = 2 + random.Intn(65534)
		if random.Intn(10) == 0 {
			list[i] = []int{-1, 0, 1, 2, 7, 65535, 65536}[random.Intn(7)]
		}
	}
	return list
}

func asked(t *testing.T, random *rand.Rand, p api.Page) api.Record {
	t.Helper()
	e, on := someEntry(random), random.Intn(3)
	level := []int{p.Level, p.Level, p.Level - 1, p.Level + 1, 0, -1}[random.Intn(6)]
	a, there, err := blink.Way(p, level, e)
	b, wantThere, want := wayModel(p, level, e)
	if a != b || there != wantThere || err != want {
		t.Errorf("Way(%+v, %d, %v): %d %v %v, want %d %v %v", p, level, e, a, there, err, b, wantThere, want)
	}
	item := someItem(random, p)
	need, err := blink.Need(p, on, item)
	wantNeed, _, _, want := needModel(p, on, item)
	if need != wantNeed || err != want {
		t.Errorf("Need(%+v, %d, %q): %d %v, want %d %v", p, on, item, need, err, wantNeed, want)
	}
	fresh := someFresh(random, need)
	r, err := blink.Enter(p, on, item, fresh...)
	same(t, fmt.Sprintf("Enter(%+v, %d, %q, %v)", p, on, item, fresh), r, err, func() (api.Record, api.Errno) { return enterModel(p, on, item, fresh) })
	if c, ok := contentOf(p); ok && len(c.list) > 0 && random.Intn(2) == 0 {
		e = c.list[random.Intn(len(c.list))]
	}
	out, err := blink.Leave(p, on, e)
	same(t, fmt.Sprintf("Leave(%+v, %d, %v)", p, on, e), out, err, func() (api.Record, api.Errno) { return leaveModel(p, on, e) })
	from, to := someEntry(random).Key, someEntry(random).Key
	hits, more, err := blink.Hits(p, from, to)
	wantHits, wantMore, want := hitsModel(p, from, to)
	if !slices.Equal(hits, wantHits) || more != wantMore || err != want {
		t.Errorf("Hits(%+v, %q, %q): %v %v %v, want %v %v %v", p, from, to, hits, more, err, wantHits, wantMore, want)
	}
	return r
}

func same(t *testing.T, what string, r api.Record, err api.Errno, model func() (api.Record, api.Errno)) {
	t.Helper()
	if want, wantErr := model(); err != wantErr || !rec.Same(r, want) {
		t.Errorf("%s: %+v %v, want %+v %v", what, r, err, want, wantErr)
	}
}

func TestAgainstTheModel(t *testing.T) {
	random := rand.New(rand.NewSource(15))
	nodes, others, ins, splits, roots := 0, 0, 0, 0, 0
	for range 8000 {
		p := someNode(random, 1+random.Intn(60))
		if node.Check(p) != api.OK {
			t.Fatalf("no node: %+v", p)
		}
		if random.Intn(3) == 0 {
			p = spoilt(random, p)
		}
		if node.Check(p) == api.OK {
			nodes++
		} else {
			others++
		}
		switch r := asked(t, random, p); {
		case len(r.Images) == 2:
			splits++
		case len(r.Images) == 3:
			roots++
		case r.Kind == api.EntryIn:
			ins++
		}
		if t.Failed() {
			return
		}
	}
	if nodes < 4000 || others < 1000 || ins < 1000 || splits < 500 || roots < 200 {
		t.Errorf("only %d nodes, %d other pages, %d entered, %d with a split, %d with a new root", nodes, others, ins, splits, roots)
	}
}
