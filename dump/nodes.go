package dump

import (
	"iter"

	"copse/api"
	"copse/branch"
	"copse/device"
	"copse/leaf"
	"copse/meta"
	"copse/pager"
	"copse/sheet"
)

const (
	firstPage = 2 // behind those of the metas
	bulkTxid  = 1
)

// node is a leaf or a branch of a bulk. Its body is made only where it is written: all of them together may be as many bytes as the pairs.
type node struct {
	kind, count, page int
	least             string // the first key of its first leaf
	body              func() (string, error)
}

// nodesOf is the nodes of a bulk, in the order of their pages: the last one is the root.
func nodesOf(l []api.Pair) []node {
	nodes := numbered(nil, row(l, leaves()))
	top := nodes
	for len(top) > 1 {
		below := len(nodes)
		nodes = numbered(nodes, row(top, branches()))
		top = nodes[below:]
	}
	return nodes
}

// numbered puts a row behind other nodes, each in the page behind the one ahead of it.
func numbered(nodes []node, further iter.Seq[node]) []node {
	for n := range further {
		n.page = firstPage + len(nodes)
		nodes = append(nodes, n)
	}
	return nodes
}

// leaves are made of pairs without a fault.
func leaves() recipe[api.Pair] {
	return recipe[api.Pair]{
		size:  func(p api.Pair, _ bool) int { return leaf.Size([]api.Pair{p}) },
		least: api.LeafMin,
		left:  leftPairs,
		node:  leafOf,
	}
}

// leftPairs needs more pairs than have room in one leaf: these can be cut.
func leftPairs(run []api.Pair) int {
	left, _, _ := leaf.Cut(run)
	return len(left)
}

func leafOf(run []api.Pair) node {
	return node{
		kind:  api.KindLeaf,
		count: len(run),
		least: run[0].Key,
		body:  func() (string, error) { return leaf.Encode(run) },
	}
}

// branches are made of nodes that have their pages.
func branches() recipe[node] {
	return recipe[node]{
		size:  childSize,
		least: api.BranchMin, // a first child alone is below it, too
		left:  leftNodes,
		node:  branchOf,
	}
}

// childSize is the bytes of a node in a branch over it: a first child's stand there without its key.
func childSize(n node, isFirst bool) int {
	alone := branch.Size(api.Branch{})
	if isFirst {
		return alone
	}
	return branch.Size(api.Branch{Links: []api.Link{linkTo(n)}}) - alone
}

// leftNodes needs more nodes than have room under one branch: these can be cut. The branch over two runs together is just what those over each are joined.
func leftNodes(run []node) int {
	left, _, _, _ := branch.Cut(over(run))
	return 1 + len(left.Links)
}

func branchOf(run []node) node {
	b := over(run)
	return node{
		kind:  api.KindBranch,
		count: len(run),
		least: run[0].least,
		body:  func() (string, error) { return branch.Encode(b) },
	}
}

// over is the branch whose children are these nodes.
func over(run []node) api.Branch {
	b := api.Branch{First: run[0].page}
	for _, n := range run[1:] {
		b.Links = append(b.Links, linkTo(n))
	}
	return b
}

func linkTo(n node) api.Link { return api.Link{Key: n.least, Child: n.page} }

// store makes a bulk durable on a device of so many pages, and then lets it count.
func store(d *device.Device, pages int, nodes []node) error {
	if err := pager.Format(d); err != nil {
		return err
	}
	for _, n := range nodes {
		if err := storeNode(d, n); err != nil {
			return err
		}
	}
	if err := d.Sync(); err != nil {
		return err
	}
	if err := meta.Store(d, api.Meta{Pages: pages, Root: rootOf(nodes), Txid: bulkTxid}); err != nil {
		return err
	}
	return d.Sync()
}

func storeNode(d *device.Device, n node) error {
	body, err := n.body()
	if err != nil {
		return err
	}
	return sheet.Store(d, api.Sheet{Kind: n.kind, ID: n.page, Txid: bulkTxid, Count: n.count, Body: body})
}

// rootOf is the page of the root; 0, if there is none.
func rootOf(nodes []node) int {
	if len(nodes) == 0 {
		return 0
	}
	return nodes[len(nodes)-1].page
}
