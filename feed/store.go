package feed

import (
	"copse/api"
	"copse/codec"
	"copse/kv"
)

// statusFault is what is told in a status in which no batch is taken.
func statusFault(status int) error {
	switch status {
	case api.Opened:
		return nil
	case api.Dead:
		return api.ErrDead
	}
	return api.ErrStatus
}

// soundFault is why a batch is not sound; nil, if it is.
func soundFault(b api.Batch) error {
	sealed, err := Seal(b.From, b.To, b.Changes)
	if err != nil {
		return err
	}
	if sealed.Sum != b.Sum {
		return api.ErrText
	}
	return nil
}

// placeFault is why a batch from one transaction on is not the next one for a replica at another.
func placeFault(from, at uint64) error {
	switch {
	case from > at:
		return api.ErrShort
	case from < at:
		return api.ErrOrder
	}
	return nil
}

// store is the store of a replica. What may be done with a change are methods of one form, so that one of them can be chosen.
type store struct{ *kv.Store }

// set gives the key of a change its new value.
func (s store) set(c api.Change) error { return s.Put(c.Key, c.New) }

// unset takes the key of a change away.
func (s store) unset(c api.Change) error {
	_, err := s.Delete(c.Key)
	return err
}

// deedFor is what is done with a change.
func deedFor(c api.Change) func(store, api.Change) error {
	if c.Has {
		return store.set
	}
	return store.unset
}

// at is the transaction that the replica's own key tells of: 0, if it is not there.
func (s store) at() (uint64, error) {
	value, there, err := s.Get(ownKey)
	switch {
	case err != nil:
		return 0, err
	case !there:
		return 0, nil
	case len(value) != txidBytes:
		return 0, api.ErrCorrupt
	}
	return codec.Get([]byte(value))
}

// agreeFault is ErrLost, if one of the changes does not begin with what the store has.
func (s store) agreeFault(l []api.Change) error {
	for _, c := range l {
		value, there, err := s.Get(c.Key)
		if err != nil {
			return err
		}
		if there != c.Had || value != c.Old {
			return api.ErrLost
		}
	}
	return nil
}

// take makes a batch one transaction, or leaves the store as it was. Of a dead one nothing can be taken back.
func (s store) take(b api.Batch) error {
	err := s.transact(b)
	if err != nil && err != api.ErrDead {
		s.Rollback()
	}
	return err
}

// transact makes the changes of a batch durable together with where they lead: so none is ever made twice.
func (s store) transact(b api.Batch) error {
	if err := s.Begin(); err != nil {
		return err
	}
	for _, c := range b.Changes {
		if err := deedFor(c)(s, c); err != nil {
			return err
		}
	}
	if err := s.Put(ownKey, string(inBytes(b.To))); err != nil {
		return err
	}
	return s.Commit()
}
