package backup

import (
	"copse/api"
	"copse/codec"
	"copse/device"
	"copse/meta"
	"copse/sheet"
)

const (
	firstPage = 2 // the pages below hold the slots
	fromStart = 0 // the Since of an archive that is whole
)

// The bytes that numbers take in the sum: those of pages and of counts, and those of transactions.
const (
	countBytes = 4
	txidBytes  = 8
)

// parcelOf is the page of that number as it lies on a device.
func parcelOf(d *device.Device, id int) (api.Parcel, error) {
	data, err := d.Read(id*api.PageSectors, api.PageSectors)
	if err != nil {
		return api.Parcel{}, err
	}
	s, err := sheet.Read(data, id)
	if err != nil {
		return api.Parcel{}, err
	}
	return api.Parcel{ID: id, Txid: s.Txid, Data: string(data)}, nil
}

// byPage is the parcels by the numbers of their pages.
func byPage(l []api.Parcel) map[int]api.Parcel {
	parcels := make(map[int]api.Parcel, len(l))
	for _, p := range l {
		parcels[p.ID] = p
	}
	return parcels
}

func isWhole(a api.Archive) bool { return a.Since == fromStart }

// mayBe tells if there is such an archive, whatever its sum is.
func mayBe(a api.Archive) bool {
	_, err := meta.Encode(a.Meta)
	return err == nil && a.Since <= a.Meta.Txid && pagesMayBe(a) && parcelsMayBe(a) && hasItsParcels(a)
}

func pagesMayBe(a api.Archive) bool {
	least := firstPage
	for _, id := range a.Pages {
		if id < least || id >= a.Meta.Pages {
			return false
		}
		least = id + 1
	}
	return true
}

func parcelsMayBe(a api.Archive) bool {
	least := firstPage
	for _, p := range a.Parcels {
		if p.ID < least || p.Txid <= a.Since || p.Txid > a.Meta.Txid || !holdsItsPage(p) {
			return false
		}
		least = p.ID + 1
	}
	return true
}

func holdsItsPage(p api.Parcel) bool {
	s, err := sheet.Read([]byte(p.Data), p.ID)
	return err == nil && s.Txid == p.Txid
}

// hasItsParcels tells if each parcel is one of the pages, and of a whole archive each page is there. Where pages and parcels rise, to count is enough.
func hasItsParcels(a api.Archive) bool {
	parcels, found := byPage(a.Parcels), 0
	for _, id := range a.Pages {
		if _, ok := parcels[id]; ok {
			found++
		}
	}
	return found == len(a.Parcels) && (found == len(a.Pages) || !isWhole(a))
}

// sealed is an archive that may be with its sum.
func sealed(a api.Archive) api.Archive {
	a.Sum = sumOf(a)
	return a
}

func sumOf(a api.Archive) uint32 {
	sum := codec.Crc(nil)
	eachPiece(a, func(p []byte) { sum = codec.CrcMore(sum, p) })
	return sum
}

// eachPiece hands on the bytes of an archive that may be, piece by piece: they need not lie in memory once more all at once.
func eachPiece(a api.Archive, sum func(p []byte)) {
	count := func(n int) { sum(digits(uint64(n), countBytes)) }
	txid := func(n uint64) { sum(digits(n, txidBytes)) }
	count(a.Meta.Pages)
	count(a.Meta.Root)
	txid(a.Meta.Txid)
	txid(a.Since)
	count(len(a.Pages))
	for _, id := range a.Pages {
		count(id)
	}
	count(len(a.Parcels))
	for _, p := range a.Parcels {
		count(p.ID)
		txid(p.Txid)
		sum([]byte(p.Data))
	}
}

// digits needs a number that fits its bytes, as those of an archive that may be do.
func digits(n uint64, width int) []byte {
	p, _ := codec.Put(n, width)
	return p
}
