package fsck

import (
	"cmp"
	"maps"
	"math"
	"slices"

	"copse/api"
	"copse/device"
	"copse/leaf"
	"copse/meta"
	"copse/sheet"
)

// copyOf is a pair as it stands in one of the leaves that have its key.
type copyOf struct {
	pair api.Pair
	txid uint64
	page int
}

func (c copyOf) isAbove(other copyOf) bool {
	return cmp.Or(cmp.Compare(c.txid, other.txid), cmp.Compare(c.page, other.page)) > 0
}

// gathered is the pairs of all leaves on a device that is alive, whether a tree leads to them or not; of a key that stands in several the youngest one's.
func gathered(d *device.Device) []api.Pair {
	kept := map[string]copyOf{}
	youngest := youngestOf(d)
	for page := firstPage; page < pagesOf(d); page++ {
		for _, c := range copiesIn(d, page, youngest) {
			old, ok := kept[c.pair.Key]
			if !ok || c.isAbove(old) {
				kept[c.pair.Key] = c
			}
		}
	}
	l := make([]api.Pair, 0, len(kept))
	for _, key := range slices.Sorted(maps.Keys(kept)) {
		l = append(l, kept[key].pair)
	}
	return l
}

// youngestOf is the last transaction that can have written a page: any, where no meta counts.
func youngestOf(d *device.Device) uint64 {
	m, err := meta.Load(d)
	if err != nil {
		return math.MaxUint64
	}
	return m.Txid
}

// copiesIn is what stands in a page, if it is a leaf that no later transaction than that one has written.
func copiesIn(d *device.Device, page int, youngest uint64) []copyOf {
	s, err := sheet.Load(d, page)
	if err != nil || s.Kind != api.KindLeaf || s.Txid < 1 || s.Txid > youngest {
		return nil
	}
	pairs, err := leaf.Decode(s.Count, s.Body)
	if err != nil {
		return nil
	}
	var l []copyOf
	for _, p := range pairs {
		l = append(l, copyOf{pair: p, txid: s.Txid, page: page})
	}
	return l
}
