package backup

import (
	"slices"

	"copse/api"
	"copse/device"
	"copse/meta"
	"copse/walk"
)

// restoreFault is what speaks against restoring an archive on a device of that size. It asks no device, so that nothing has become of any.
func restoreFault(sectors int, a api.Archive) error {
	switch {
	case Check(a) != nil:
		return api.ErrText
	case !isWhole(a) || sectors/api.PageSectors != a.Meta.Pages:
		return api.ErrArg
	case !makesStore(sectors, a):
		return api.ErrCorrupt
	}
	return nil
}

// makesStore tells if a whole archive, laid on a device on which nothing else lies, is a store with just its pages.
func makesStore(sectors int, a api.Archive) bool {
	trial := device.New(sectors)
	if writeParcels(trial, a.Parcels) != nil || meta.Store(trial, a.Meta) != nil {
		return false
	}
	s, err := walk.Survey(trial)
	return err == nil && slices.Equal(s.Pages, a.Pages)
}

// restore lays an archive without a fault on a device. The slot that counts is wiped last, so that no older store comes up in between; the archive's meta is written when all its pages are durable.
func restore(d *device.Device, a api.Archive) error {
	idle, err := idleSlot(d)
	if err != nil {
		return err
	}
	for _, do := range []func() error{
		func() error { return meta.Wipe(d, idle) },
		d.Sync,
		func() error { return meta.Wipe(d, 1-idle) },
		d.Sync,
		func() error { return writeParcels(d, a.Parcels) },
		d.Sync,
		func() error { return meta.Store(d, a.Meta) },
		d.Sync,
	} {
		if err := do(); err != nil {
			return err
		}
	}
	return nil
}

// idleSlot is the slot that does not count.
func idleSlot(d *device.Device) (int, error) {
	m, err := meta.Load(d)
	if err == api.ErrDead {
		return 0, err
	}
	return 1 - meta.Slot(m.Txid), nil // where none counts: slot 1, for m is zero
}

func writeParcels(d *device.Device, l []api.Parcel) error {
	for _, p := range l {
		if err := d.Write(p.ID*api.PageSectors, []byte(p.Data)); err != nil {
			return err
		}
	}
	return nil
}
