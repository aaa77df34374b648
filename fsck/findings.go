package fsck

import (
	"bytes"

	"copse/api"
	"copse/device"
	"copse/meta"
)

const (
	slots     = 2
	firstPage = 2 // the pages below hold the slots
	noRoot    = 0 // of a tree that is empty
)

// listing takes what is found at a page.
type listing func(page, what int)

// slotPage stands in a finding for a slot.
func slotPage(slot int) int { return -1 - slot }

// findings is all that speaks against a device, which is alive or can't be a store.
func findings(d *device.Device) []api.Finding {
	var l []api.Finding
	list := func(page, what int) {
		l = append(l, api.Finding{Page: page, What: what})
	}
	if !canBeStore(d) {
		list(slotPage(0), api.FindBounds)
		return l
	}
	lookAtSlots(d, list)
	m, err := meta.Load(d)
	switch {
	case err == nil && m.Root != noRoot:
		lookAtTree(d, m, list)
	case err != nil && len(l) == 0:
		list(slotPage(0), api.FindMeta)
	}
	return l
}

// lookAtSlots lists the slots that hold something else than a meta.
func lookAtSlots(d *device.Device, list listing) {
	for slot := range slots {
		p, _ := d.Read(slot*api.PageSectors, 1)
		_, err := meta.Decode(p, pagesOf(d), slot)
		if err != nil && !isZero(p) {
			list(slotPage(slot), api.FindMeta)
		}
	}
}

func isZero(p []byte) bool { return bytes.Equal(p, make([]byte, len(p))) }
