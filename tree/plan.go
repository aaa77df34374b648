package tree

import (
	"slices"

	"copse/api"
	"copse/branch"
	"copse/free"
	"copse/leaf"
)

// planner gives the changed nodes their pages.
type planner struct {
	pages  []int // one for each of them
	txid   uint64
	sheets []api.Sheet
	fault  error
}

// Plan gives the changed nodes pages that are free, and answers these pages and the root's number.
func (t *Tree) Plan(m *free.Map, txid uint64) ([]api.Sheet, int, error) {
	pages, err := m.Take(t.Changed())
	if err != nil {
		return nil, 0, err
	}
	p := planner{pages: pages, txid: txid}
	root := p.lay(t.root)
	if p.fault != nil {
		giveBack(m, pages)
		return nil, 0, p.fault
	}
	t.root = rootAt(root)
	return p.sheets, root, nil
}

func giveBack(m *free.Map, pages []int) {
	for _, id := range pages {
		_ = m.Clear(id)
	}
}

// lay is the page of what a branch, or the tree, leads to; 0, if that is nothing.
func (p *planner) lay(c child) int {
	switch c := c.(type) {
	case page:
		return int(c)
	case *node:
		return p.layNode(c)
	}
	return 0
}

// layNode makes the sheet of a node, behind those of the nodes below it.
func (p *planner) layNode(n *node) int {
	s := p.sheetOf(n)
	s.ID, s.Txid = p.pages[len(p.sheets)], p.txid
	p.sheets = append(p.sheets, s)
	return s.ID
}

func (p *planner) sheetOf(n *node) api.Sheet {
	if n.isLeaf() {
		body, err := leaf.Encode(n.pairs)
		p.look(err)
		return api.Sheet{Kind: api.KindLeaf, Count: len(n.pairs), Body: body}
	}
	b := p.branchOf(n)
	body, err := branch.Encode(b)
	p.look(err)
	return api.Sheet{Kind: api.KindBranch, Count: 1 + len(b.Links), Body: body}
}

// look keeps in mind that a node can't be written: that is never so in a tree that was sound, with a map that knows its pages.
func (p *planner) look(err error) {
	if err != nil {
		p.fault = api.ErrCorrupt
	}
}

// branchOf is a branch with the pages of its children.
func (p *planner) branchOf(n *node) api.Branch {
	b := api.Branch{First: p.lay(n.children[0]), Links: slices.Clone(n.keys.Links)}
	for i, c := range n.children[1:] {
		b.Links[i].Child = p.lay(c)
	}
	return b
}
