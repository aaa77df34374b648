package diff

import (
	"math"

	"copse/api"
	"copse/tree"
)

// byPage is the leaves that are on the device, by their pages.
func byPage(leaves []api.Span) map[int]api.Span {
	pages := map[int]api.Span{}
	for _, s := range leaves {
		if s.Page != 0 {
			pages[s.Page] = s
		}
	}
	return pages
}

// keyBehind is the key at which the leaf of that number ends; empty, if it is the last.
func keyBehind(leaves []api.Span, i int) string {
	if i+1 == len(leaves) {
		return ""
	}
	return leaves[i+1].From
}

// pairsBeside is the pairs of a tree in those of its leaves that another tree does not have on the device.
func pairsBeside(t *tree.Tree, leaves []api.Span, others map[int]api.Span) ([]api.Pair, error) {
	var pairs []api.Pair
	for i, s := range leaves {
		if _, shared := others[s.Page]; shared {
			continue
		}
		l, err := t.Pairs(s.From, keyBehind(leaves, i), math.MaxInt)
		if err != nil {
			return nil, err
		}
		pairs = append(pairs, l...)
	}
	return pairs, nil
}
