package feed

import (
	"slices"

	"copse/api"
	"copse/device"
	"copse/diff"
	"copse/walk"
)

// state is a transaction of a store, and the pairs that the store had then.
type state struct {
	txid  uint64
	pairs []api.Pair
}

// stateOn is the state of the store on a device, whose transaction was told already. The replica's own key is left out: who follows a replica has one of its own.
func stateOn(d *device.Device, txid uint64) (state, error) {
	l, err := walk.Content(d)
	if err != nil {
		return state{}, err
	}
	l = slices.DeleteFunc(l, func(p api.Pair) bool { return p.Key == ownKey })
	return state{txid: txid, pairs: l}, nil
}

// batchBetween is the batch from one state to a later one.
func batchBetween(old, now state) (api.Batch, error) {
	l, err := diff.Lists(old.pairs, now.pairs)
	if err != nil {
		return api.Batch{}, err
	}
	return Seal(old.txid, now.txid, l)
}
