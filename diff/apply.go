package diff

import (
	"copse/api"
	"copse/kv"
)

// statusFault is what is told in a status in which nothing can be changed.
func statusFault(s *kv.Store) error {
	switch s.Status() {
	case api.Working:
		return nil
	case api.Dead:
		return api.ErrDead
	}
	return api.ErrStatus
}

// mayBeMade tells if each key and each New may stand in a store. A New that will not be put counts too: it has no business to be there.
func mayBeMade(l []api.Change) bool {
	for _, c := range l {
		if c.Key == "" || len(c.Key) > api.MaxKey || len(c.New) > api.MaxValue {
			return false
		}
	}
	return true
}

// storeFault is ErrLost, if a change does not fit what the store has.
func storeFault(s *kv.Store, l []api.Change) error {
	for _, c := range l {
		value, there, err := s.Get(c.Key)
		if err != nil {
			return err
		}
		if !fits(c, there, value) {
			return api.ErrLost
		}
	}
	return nil
}

// makeAll makes the changes one behind the other.
func makeAll(s *kv.Store, l []api.Change) error {
	for _, c := range l {
		if err := makeOne(s, c); err != nil {
			return err
		}
	}
	return nil
}

func makeOne(s *kv.Store, c api.Change) error {
	switch {
	case isIdle(c):
		return nil
	case c.Has:
		return s.Put(c.Key, c.New)
	case c.Had:
		_, err := s.Delete(c.Key)
		return err
	}
	return nil
}
