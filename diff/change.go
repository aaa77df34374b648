package diff

import (
	"strings"

	"copse/api"
)

// copyOf is the change in memory of its own: what is answered shares none with what was handed in.
func copyOf(c api.Change) api.Change {
	c.Key, c.Old, c.New = strings.Clone(c.Key), strings.Clone(c.Old), strings.Clone(c.New)
	return c
}

// isIdle tells if a change leads where it came from.
func isIdle(c api.Change) bool { return c.Had == c.Has && c.Old == c.New }

// appendChange puts a change behind the others, unless it is idle.
func appendChange(l []api.Change, c api.Change) []api.Change {
	if isIdle(c) {
		return l
	}
	return append(l, copyOf(c))
}

// changeFrom is the change from a pair to another one of the same key; a pair that is not there is nil.
func changeFrom(old, now *api.Pair) api.Change {
	var c api.Change
	if old != nil {
		c.Key, c.Had, c.Old = old.Key, true, old.Value
	}
	if now != nil {
		c.Key, c.Has, c.New = now.Key, true, now.Value
	}
	return c
}

// fits tells if a change begins where its key is: there or not, with that value (none: empty).
func fits(c api.Change, there bool, value string) bool {
	return c.Had == there && c.Old == value
}

// fitsPair tells if a change, if there is one, fits the pair of its key, if there is one.
func fitsPair(c *api.Change, p *api.Pair) bool {
	switch {
	case c == nil:
		return true
	case p == nil:
		return fits(*c, false, "")
	}
	return fits(*c, true, p.Value)
}

// appendMade puts what a change makes of its key's pair behind the others.
func appendMade(l []api.Pair, p *api.Pair, c *api.Change) []api.Pair {
	switch {
	case c == nil:
		return append(l, api.Pair{Key: strings.Clone(p.Key), Value: strings.Clone(p.Value)})
	case c.Has:
		return append(l, api.Pair{Key: strings.Clone(c.Key), Value: strings.Clone(c.New)})
	}
	return l
}

// followsOn tells if a key's second change, if it has both, begins where the first one leads.
func followsOn(one, next *api.Change) bool {
	return one == nil || next == nil || fits(*next, one.Has, one.New)
}

// joined is the change that leads where two of one key lead, one of which may be nil.
func joined(one, next *api.Change) api.Change {
	switch {
	case one == nil:
		return *next
	case next == nil:
		return *one
	}
	return api.Change{Key: one.Key, Had: one.Had, Old: one.Old, Has: next.Has, New: next.New}
}
