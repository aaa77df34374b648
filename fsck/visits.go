package fsck

import (
	"slices"

	"copse/api"
	"copse/branch"
	"copse/device"
	"copse/leaf"
	"copse/sheet"
)

// visitor goes down a tree that may be wrong anywhere, and lists what is.
type visitor struct {
	device    *device.Device
	meta      api.Meta
	list      listing
	visited   map[int]int // the pages, each with its depth
	leafDepth int         // of the first leaf; 0 ahead of it
}

// lookAtTree lists what is wrong with the tree that a meta begins.
func lookAtTree(d *device.Device, m api.Meta, list listing) {
	v := visitor{device: d, meta: m, list: list, visited: map[int]int{}}
	v.visit(m.Root, 1, bounds{})
}

// visit goes to a page and all that is beneath it. The page counts as visited ahead of being read, so none is read twice, however the links lead.
func (v *visitor) visit(page, depth int, within bounds) {
	switch {
	case depth > api.MaxDepth:
		v.list(page, api.FindDepth)
	case page < firstPage || page >= v.meta.Pages:
		v.list(page, api.FindBounds)
	case v.visited[page] != 0:
		v.list(page, api.FindTwice)
	default:
		v.visited[page] = depth
		v.read(page, depth, within)
	}
}

func (v *visitor) read(page, depth int, within bounds) {
	s, err := sheet.Load(v.device, page)
	switch {
	case err != nil:
		v.list(page, api.FindPage)
	case s.Kind == api.KindLeaf:
		v.leaf(s, depth, within)
	default:
		v.branch(s, depth, within)
	}
}

func (v *visitor) leaf(s api.Sheet, depth int, within bounds) {
	l, err := leaf.Decode(s.Count, s.Body)
	if err != nil {
		v.list(s.ID, api.FindNode)
		return
	}
	misplaced := slices.ContainsFunc(l, func(p api.Pair) bool { return !within.hold(p.Key) })
	v.node(s, leaf.Check(l, v.isRoot(s)), misplaced)
	if v.leafDepth == 0 {
		v.leafDepth = depth
	}
	if depth != v.leafDepth {
		v.list(s.ID, api.FindKind)
	}
}

func (v *visitor) branch(s api.Sheet, depth int, within bounds) {
	b, err := branch.Decode(s.Count, s.Body)
	if err != nil {
		v.list(s.ID, api.FindNode)
		return
	}
	misplaced := slices.ContainsFunc(b.Links, func(l api.Link) bool { return !within.hold(l.Key) })
	v.node(s, branch.Check(b, v.isRoot(s)), misplaced)
	for i := range len(b.Links) + 1 {
		child, _ := branch.Child(b, i)
		v.visit(child, depth+1, within.ofChild(b, i))
	}
}

// node lists what may be wrong with leaves and branches alike: with the page, with how full the node is, and with its keys.
func (v *visitor) node(s api.Sheet, fault error, misplaced bool) {
	if s.Txid < 1 || s.Txid > v.meta.Txid {
		v.list(s.ID, api.FindTxid)
	}
	if fault != nil {
		v.list(s.ID, api.FindFill)
	}
	if misplaced {
		v.list(s.ID, api.FindOrder)
	}
}

func (v *visitor) isRoot(s api.Sheet) bool { return s.ID == v.meta.Root }

// bounds are where keys have their place: from low on and below high. No key is empty, so an empty low or high is none.
type bounds struct {
	low, high string
}

func (b bounds) hold(key string) bool {
	return key >= b.low && (b.high == "" || key < b.high)
}

// ofChild is the bounds of a child of a branch that has these: never wider than they are, even where the branch's keys lie outside of them.
func (b bounds) ofChild(n api.Branch, i int) bounds {
	if i > 0 {
		b.low = max(b.low, n.Links[i-1].Key)
	}
	if i < len(n.Links) {
		b.high = lesserBound(b.high, n.Links[i].Key)
	}
	return b
}

// lesserBound is the lesser one of a high bound, which may be none, and a key.
func lesserBound(high, key string) string {
	if high == "" {
		return key
	}
	return min(high, key)
}
