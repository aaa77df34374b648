package tree

import (
	"slices"

	"copse/api"
	"copse/branch"
	"copse/leaf"
)

// within is those of rising pairs that are at or above from and below to.
func within(l []api.Pair, from, to string) []api.Pair {
	start, _ := leaf.Find(l, from)
	end := len(l)
	if to != "" {
		end, _ = leaf.Find(l, to)
	}
	return l[start:max(start, end)]
}

// Pairs is the first pairs at or above from and below to (to empty: no bound), no more than limit. To a page that was met before it does not go again.
func (t *Tree) Pairs(from, to string, limit int) ([]api.Pair, error) {
	if limit < 0 {
		return nil, api.ErrArg
	}
	if t.root == nil {
		return nil, nil
	}
	var pairs []api.Pair
	var fault error
	met := map[int]struct{}{}
	var gather func(c child, depth int) bool
	gather = func(c child, depth int) bool {
		if isMetAgain(met, c) {
			fault = api.ErrCorrupt
			return false
		}
		n, err := t.readAt(c, depth)
		if err != nil {
			fault = err
			return false
		}
		if n.isLeaf() {
			l := within(n.pairs, from, to)
			pairs = append(pairs, l[:min(len(l), limit-len(pairs))]...)
			return len(pairs) < limit
		}
		for i := branch.Pick(n.keys, from); i < len(n.children); i++ {
			if isBehind(n.keys, i, to) || !gather(n.children[i], depth+1) {
				return false
			}
		}
		return true
	}
	gather(t.root, 1)
	if fault != nil {
		return nil, fault
	}
	return pairs, nil
}

// isBehind tells if all keys in the child of that number are at or above to, so that it need not be read.
func isBehind(b api.Branch, i int, to string) bool {
	return i > 0 && to != "" && b.Links[i-1].Key >= to
}

// Below is the last pair below a key; of the empty key the last pair of all.
func (t *Tree) Below(key string) (api.Pair, bool, error) {
	if key == "" {
		return lastOf(t.way(last))
	}
	way, err := t.wayTo(key)
	if err != nil {
		return api.Pair{}, false, err
	}
	pairs := pairsAt(way)
	place, _ := leaf.Find(pairs, key)
	if place > 0 {
		return pairs[place-1], true, nil
	}
	return lastOf(t.wayAhead(way))
}

// wayAhead goes to the leaf ahead of the one to which a way goes; it has no steps, if that is the first.
func (t *Tree) wayAhead(way []step) ([]step, error) {
	for i := len(way) - 1; i >= 0; i-- {
		if s := way[i]; s.at > 0 {
			ahead := append(way[:i:i], step{node: s.node, at: s.at - 1})
			return t.goDown(ahead, s.node.children[s.at-1], last)
		}
	}
	return nil, nil
}

// lastOf is the last pair of the leaf to which a way goes, and whether there is one.
func lastOf(way []step, err error) (api.Pair, bool, error) {
	pairs := pairsAt(way)
	if len(pairs) == 0 {
		return api.Pair{}, false, err
	}
	return pairs[len(pairs)-1], true, nil
}

// Depth is how many levels there are.
func (t *Tree) Depth() (int, error) {
	way, err := t.way(first)
	return len(way), err
}

// isMetAgain tells if a page is among those that were met, and puts it there.
func isMetAgain(met map[int]struct{}, c child) bool {
	id := pageOf(c)
	_, again := met[id]
	if id != 0 {
		met[id] = struct{}{}
	}
	return again
}

// goThrough hands on each node, from the left to the right and a branch ahead of what is below it, with the last key by which the way goes to it and with how many levels there are from it on. No leaf is read for its own sake: where they lie, the depth says. To a page that was met before it does not go again: where branches share their children, there are more ways than anybody can go.
func (t *Tree) goThrough(meet func(c child, from string, levels int)) error {
	depth, err := t.Depth()
	if depth == 0 {
		return err
	}
	met := map[int]struct{}{}
	var visit func(c child, from string, levels int) bool
	visit = func(c child, from string, levels int) bool {
		if isMetAgain(met, c) {
			err = api.ErrCorrupt
			return false
		}
		meet(c, from, levels)
		if levels == 1 {
			return true
		}
		var n *node
		if n, err = t.read(c); err != nil {
			return false
		}
		for i, below := range n.children {
			if i > 0 {
				from = n.keys.Links[i-1].Key
			}
			if !visit(below, from, levels-1) {
				return false
			}
		}
		return true
	}
	visit(t.root, "", depth)
	return err
}

// Leaves is the leaves from left to right.
func (t *Tree) Leaves() ([]api.Span, error) {
	var spans []api.Span
	err := t.goThrough(func(c child, from string, levels int) {
		if levels == 1 {
			spans = append(spans, api.Span{Page: pageOf(c), From: from})
		}
	})
	if err != nil {
		return nil, err
	}
	return spans, nil
}

// Pages is the numbers of its pages on the device, rising.
func (t *Tree) Pages() ([]int, error) {
	var pages []int
	err := t.goThrough(func(c child, _ string, _ int) {
		if id := pageOf(c); id != 0 {
			pages = append(pages, id)
		}
	})
	if err != nil {
		return nil, err
	}
	slices.Sort(pages)
	return pages, nil
}
