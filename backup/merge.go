package backup

import (
	"strings"

	"copse/api"
)

// mergeFault is what speaks against laying one archive over another, but pages that neither has.
func mergeFault(a, b api.Archive) error {
	switch {
	case Check(a) != nil || Check(b) != nil:
		return api.ErrText
	case !isWhole(a):
		return api.ErrArg
	case a.Meta.Pages != b.Meta.Pages:
		return api.ErrKind
	case b.Meta.Txid < a.Meta.Txid:
		return api.ErrOrder
	case b.Since > a.Meta.Txid:
		return api.ErrShort
	}
	return nil
}

// laidOver is a parcel for each page of a later archive, in memory of their own.
func laidOver(a, b api.Archive) ([]api.Parcel, error) {
	earlier, later := byPage(a.Parcels), byPage(b.Parcels)
	var l []api.Parcel
	for _, id := range b.Pages {
		p, ok := later[id]
		if !ok {
			p, ok = earlier[id]
			ok = ok && p.Txid <= b.Since // else it is not the page that the later archive left out
		}
		if !ok {
			return nil, api.ErrLost
		}
		p.Data = strings.Clone(p.Data)
		l = append(l, p)
	}
	return l, nil
}
