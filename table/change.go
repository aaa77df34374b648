package table

import (
	"slices"

	"copse/api"
	"copse/tuple"
)

// change is a pair that is put into a space, or taken away from it with the value that it has; without a key it is the space, which is made.
type change struct {
	space string
	key   []api.Item
	value string
	away  bool
}

func definingChanges(d api.Table) []change {
	return []change{
		{space: tablesSpace},
		{space: rowsSpace},
		{space: indexSpace},
		{space: tablesSpace, key: []api.Item{textItem(d.Name)}, value: packed(definitionItems(d))},
	}
}

// changesOf are those by which a record is put or taken away: the record, and then its entry of each index.
func (d definition) changesOf(r api.Row, away bool) []change {
	name := d.table.Name
	l := []change{{space: rowsSpace, key: rowKey(name, r.ID), value: packed(r.Items), away: away}}
	for i, pick := range d.picks {
		key := append(entryBegin(name, i, pick(r.Items)), numItem(r.ID))
		l = append(l, change{space: indexSpace, key: key, away: away})
	}
	return l
}

// keyInStore is the key of the store, as layer 16 makes it, of a space's key, or of the space, if there is none.
func keyInStore(space string, key []api.Item) (string, error) {
	return tuple.Pack(append([]api.Item{textItem(space)}, key...))
}

func areTooLong(l []change) bool {
	return slices.ContainsFunc(l, func(c change) bool {
		at, err := keyInStore(c.space, c.key)
		return err != nil || len(at) > api.MaxKey || len(c.value) > api.MaxValue
	})
}

// carryOut makes all changes, or none.
func (t *Tables) carryOut(l []change) error {
	if err := t.lookAhead(l); err != nil {
		return err
	}
	for i, c := range l {
		if err := t.do(c); err != nil {
			t.putBack(l[:i])
			return err
		}
	}
	return nil
}

// lookAhead reads the nodes on the way to each pair and to its space. A pair that is new needs no others: so once something is put, no page can stand in the way of the rest.
func (t *Tables) lookAhead(l []change) error {
	for _, c := range l {
		for _, key := range [][]api.Item{nil, c.key} {
			at, err := keyInStore(c.space, key)
			if err != nil {
				return err
			}
			if _, _, err := t.store.Get(at); err != nil {
				return err
			}
		}
	}
	return nil
}

func (t *Tables) do(c change) error {
	switch {
	case c.away:
		_, err := t.spaces().Delete(c.space, c.key)
		return err
	case len(c.key) == 0:
		if err := t.spaces().Make(c.space); err != api.ErrTwice {
			return err
		}
		return nil
	}
	return t.spaces().Put(c.space, c.key, c.value)
}

// putBack is for pairs that were taken away ahead of one that could not be, for a page beside it that is no node. They lie in nodes that are in memory by then: so nothing stands in the way.
func (t *Tables) putBack(l []change) {
	for _, c := range l {
		if !c.away || t.spaces().Put(c.space, c.key, c.value) != nil {
			return
		}
	}
}
