package tree

import (
	"slices"

	"copse/api"
	"copse/branch"
	"copse/device"
	"copse/leaf"
	"copse/sheet"
)

// child is what a branch, or the tree, leads to: a page, or a node that has none as yet.
type child interface {
	changed() int // how many nodes there are without a page, itself and below it
}

// page is the number of a node on the device.
type page int

// node is a node in memory: a branch or, if it has no children, a leaf. Once made it is never written to: so copies of a tree share it, and a change that ends in an error has touched nothing.
type node struct {
	pairs    []api.Pair // a leaf's
	keys     api.Branch // a branch's, as package branch knows it; but its children are those of the next field alone
	children []child
}

func (page) changed() int { return 0 }

func (n *node) changed() int {
	changed := 1
	for _, c := range n.children {
		changed += c.changed()
	}
	return changed
}

// pageOf is the page of a child; 0, if it has none.
func pageOf(c child) int {
	if id, ok := c.(page); ok {
		return int(id)
	}
	return 0
}

// load is the node of a page.
func load(d *device.Device, id int) (*node, error) {
	s, err := sheet.Load(d, id)
	switch {
	case err == api.ErrDead:
		return nil, err
	case err != nil:
		return nil, api.ErrCorrupt
	case s.Kind == api.KindLeaf:
		return loadedLeaf(s)
	}
	return loadedBranch(s)
}

func loadedLeaf(s api.Sheet) (*node, error) {
	pairs, err := leaf.Decode(s.Count, s.Body)
	if err != nil {
		return nil, api.ErrCorrupt
	}
	return &node{pairs: pairs}, nil
}

func loadedBranch(s api.Sheet) (*node, error) {
	b, err := branch.Decode(s.Count, s.Body)
	if err != nil {
		return nil, api.ErrCorrupt
	}
	return &node{keys: b, children: pagesOf(b)}, nil
}

func pagesOf(b api.Branch) []child {
	children := []child{page(b.First)}
	for _, l := range b.Links {
		children = append(children, page(l.Child))
	}
	return children
}

func (n *node) isLeaf() bool { return len(n.children) == 0 }

func (n *node) isTooBig() bool {
	if n.isLeaf() {
		return leaf.Size(n.pairs) > api.BodyBytes
	}
	return branch.Size(n.keys) > api.BodyBytes
}

// isTooSmall is asked of nodes that are not the root.
func (n *node) isTooSmall() bool {
	if n.isLeaf() {
		return leaf.Size(n.pairs) < api.LeafMin
	}
	return branch.Size(n.keys) < api.BranchMin
}

// cut is the two halves of a node that is too big, and the key between them. No pair and no link takes more than a fourth of a body: so there are enough to be cut.
func (n *node) cut() (*node, string, *node) {
	if n.isLeaf() {
		left, right, _ := leaf.Cut(n.pairs)
		return &node{pairs: left}, right[0].Key, &node{pairs: right}
	}
	left, key, right, _ := branch.Cut(n.keys)
	half := len(left.Links) + 1
	return &node{keys: left, children: slices.Clone(n.children[:half])}, key,
		&node{keys: right, children: slices.Clone(n.children[half:])}
}

// join is two nodes of one kind in one, which may be too big; the key is that of the link between them.
func join(a *node, key string, b *node) *node {
	if a.isLeaf() {
		return &node{pairs: slices.Concat(a.pairs, b.pairs)}
	}
	return &node{keys: branch.Join(a.keys, key, b.keys), children: slices.Concat(a.children, b.children)}
}

// withChild is the branch with another child in the place of that number.
func (n *node) withChild(i int, c child) *node {
	children := slices.Clone(n.children)
	children[i] = c
	return &node{keys: n.keys, children: children}
}

// withLink is the branch with a link put in behind the child of that number.
func (n *node) withLink(i int, key string, c child) *node {
	keys, _ := branch.Insert(n.keys, i, api.Link{Key: key})
	return &node{keys: keys, children: slices.Insert(slices.Clone(n.children), i+1, c)}
}

// withoutLink is the branch without the link of that number, and without its child.
func (n *node) withoutLink(i int) *node {
	keys, _ := branch.Remove(n.keys, i)
	return &node{keys: keys, children: slices.Delete(slices.Clone(n.children), i+1, i+2)}
}

// withNode is the branch with a node in the place of the child of that number, or with its two halves there, if it is too big.
func (n *node) withNode(i int, below *node) *node {
	if !below.isTooBig() {
		return n.withChild(i, below)
	}
	left, key, right := below.cut()
	return n.withChild(i, left).withLink(i, key, right)
}

// rootOf is what a tree begins with when this has become of its root: nothing, if it is empty.
func rootOf(n *node) child {
	switch {
	case n.isTooBig():
		left, key, right := n.cut()
		return &node{keys: api.Branch{Links: []api.Link{{Key: key}}}, children: []child{left, right}}
	case !n.isLeaf() && len(n.keys.Links) == 0:
		return n.children[0]
	case n.isLeaf() && len(n.pairs) == 0:
		return nil
	}
	return n
}
