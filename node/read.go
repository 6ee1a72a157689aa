package node

import (
	"slices"

	"almonry/api"
)

// content is what the bytes of a node say.
type content struct {
	entries []api.Entry // of an inner node: its separators
	kids    []int       // of an inner node alone
	high    api.Entry   // the least, if there is none
}

// read is what a page says, and whether it is a node.
func read(p api.Page) (content, bool) {
	if p.Level == 0 {
		return readLeaf(p)
	}
	return readInner(p)
}

// readLeaf is what a page says, and whether it is a leaf.
func readLeaf(p api.Page) (content, bool) {
	high, ok := readHead(p)
	if !ok || p.Level != 0 {
		return content{}, false
	}
	n := content{entries: make([]api.Entry, 0, len(p.Items)), high: high}
	last := api.Entry{}
	for _, item := range p.Items {
		e, err := Decode(item)
		if err != api.OK || Compare(e, last) <= 0 || n.isBeyond(e) {
			return content{}, false
		}
		n.entries = append(n.entries, e)
		last = e
	}
	return n, true
}

// readInner is what a page says, and whether it is an inner node.
func readInner(p api.Page) (content, bool) {
	high, ok := readHead(p)
	if !ok || p.Level == 0 || len(p.Items) == 0 {
		return content{}, false
	}
	n := content{entries: make([]api.Entry, 0, len(p.Items)), kids: make([]int, 0, len(p.Items)), high: high}
	for _, item := range p.Items {
		e, child, err := Unsep(item)
		if err != api.OK || !n.follows(e) {
			return content{}, false
		}
		n.entries = append(n.entries, e)
		n.kids = append(n.kids, child)
	}
	return n, true
}

// readHead is a page's High, the least if it has none, and whether all its fields but the items are a node's.
func readHead(p api.Page) (api.Entry, bool) {
	if p.Kind != api.NodePage || p.Level < 0 || p.Level > maxLevel || !isNumber(p.Right) {
		return api.Entry{}, false
	}
	if p.High == "" {
		return api.Entry{}, true
	}
	high, err := Decode(p.High)
	return high, err == api.OK
}

// follows tells whether a separator may stand behind those of an inner node that were read.
func (n content) follows(e api.Entry) bool {
	if len(n.entries) == 0 {
		return isLeast(e)
	}
	return Compare(e, n.entries[len(n.entries)-1]) > 0 && n.isBelowHigh(e)
}

func (n content) isBeyond(e api.Entry) bool {
	return !isLeast(n.high) && Compare(e, n.high) > 0
}

func (n content) isBelowHigh(e api.Entry) bool {
	return isLeast(n.high) || Compare(e, n.high) < 0
}

// place is how many entries are ahead of one, and whether it is there.
func (n content) place(e api.Entry) (int, bool) {
	return slices.BinarySearchFunc(n.entries, e, Compare)
}
