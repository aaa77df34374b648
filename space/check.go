package space

import (
	"copse/api"
	"copse/tuple"
)

// check is one of the things that are looked at ahead of a call.
type check func() error

// firstFault calls the checks, in their order, until one tells an error.
func firstFault(checks ...check) error {
	for _, c := range checks {
		if err := c(); err != nil {
			return err
		}
	}
	return nil
}

func (p *Spaces) mayRead() check { return p.mayBeIn(api.Opened, api.Working) }

func (p *Spaces) mayWrite() check { return p.mayBeIn(api.Working) }

func (p *Spaces) mayBeIn(statuses ...int) check {
	return func() error {
		now := p.store.Status()
		if now == api.Dead {
			return api.ErrDead
		}
		for _, s := range statuses {
			if now == s {
				return nil
			}
		}
		return api.ErrStatus
	}
}

func isName(name string) bool {
	for i := range len(name) {
		if name[i] < 0x21 || name[i] > 0x7E {
			return false
		}
	}
	return len(name) >= 1 && len(name) <= api.MaxName
}

func mayName(name string) check {
	return func() error {
		if !isName(name) {
			return api.ErrArg
		}
		return nil
	}
}

// mayKey lets at be the key in the store, if there is one.
func mayKey(at *string, name string, key []api.Item) check {
	return func() error {
		if len(key) == 0 {
			return api.ErrShort
		}
		text, err := packed(name, key)
		if err != nil {
			return err
		}
		if len(text) > api.MaxKey {
			return api.ErrMany
		}
		*at = text
		return nil
	}
}

// mayPrefix lets begin be what the keys in the store begin with. It may be longer than any key: then there are none.
func mayPrefix(begin *string, name string, prefix []api.Item) check {
	return func() (err error) {
		*begin, err = packed(name, prefix)
		return err
	}
}

func mayLimit(limit int) check {
	return func() error {
		if limit < 0 {
			return api.ErrArg
		}
		return nil
	}
}

func mayValue(value string) check {
	return func() error {
		if len(value) > api.MaxValue {
			return api.ErrMany
		}
		return nil
	}
}

func (p *Spaces) isMade(name string) check {
	return func() error {
		_, made, err := p.store.Get(headOf(name))
		if err == nil && !made {
			return api.ErrLost
		}
		return err
	}
}

func (p *Spaces) isNotMade(name string) check {
	return func() error {
		_, made, err := p.store.Get(headOf(name))
		if made {
			return api.ErrTwice
		}
		return err
	}
}

// packed is the text of a space's name and items.
func packed(name string, items []api.Item) (string, error) {
	if len(items) > api.MaxItems-1 {
		return "", api.ErrMany
	}
	l := []api.Item{{Kind: api.ItemText, Text: name}}
	return tuple.Pack(append(l, items...))
}

// headOf can't be refused: a name is short enough.
func headOf(name string) string {
	head, _ := packed(name, nil)
	return head
}
