package feed

import (
	"slices"
	"strings"

	"copse/api"
	"copse/codec"
)

// ownKey is the replica's own key. No packed tuple begins so, so it is in nobody's way.
const ownKey = "\xff" + "feed"

// The bytes that numbers take in a batch: those of transactions, and those of lengths.
const (
	txidBytes   = 8
	lengthBytes = 4
)

// batchFault is why there is no batch of these; nil, if there is one.
func batchFault(from, to uint64, l []api.Change) error {
	switch {
	case to <= from || slices.ContainsFunc(l, mayNotBe):
		return api.ErrArg
	case !rises(l):
		return api.ErrOrder
	case slices.ContainsFunc(l, isOfOwnKey):
		return api.ErrKind
	}
	return nil
}

// mayNotBe tells if no batch has such a change. Where both values may stand, one that neither had nor has is idle too.
func mayNotBe(c api.Change) bool {
	idle := c.Had == c.Has && c.Old == c.New
	return c.Key == "" || len(c.Key) > api.MaxKey || !mayStand(c.Had, c.Old) || !mayStand(c.Has, c.New) || idle
}

// mayStand tells if a value may stand beside what says whether there is one.
func mayStand(there bool, value string) bool {
	return len(value) <= api.MaxValue && (there || value == "")
}

func isOfOwnKey(c api.Change) bool { return c.Key == ownKey }

// rises tells if each key is above the one ahead of it.
func rises(l []api.Change) bool {
	for i := 1; i < len(l); i++ {
		if l[i-1].Key >= l[i].Key {
			return false
		}
	}
	return true
}

// copyOf is the changes in memory of their own: what is answered shares none with what was handed in.
func copyOf(l []api.Change) []api.Change {
	var copied []api.Change
	for _, c := range l {
		c.Key, c.Old, c.New = strings.Clone(c.Key), strings.Clone(c.Old), strings.Clone(c.New)
		copied = append(copied, c)
	}
	return copied
}

// sumOf is the sum of a batch, change by change: its bytes need not lie in memory all at once.
func sumOf(from, to uint64, l []api.Change) uint32 {
	sum := codec.Crc(inBytes(from, to, len(l)))
	for _, c := range l {
		sum = codec.CrcMore(sum, inBytes(len(c.Key), c.Key, c.Had, len(c.Old), c.Old, c.Has, len(c.New), c.New))
	}
	return sum
}

// inBytes is transactions (uint64), lengths (int), yes or no (bool) and texts as the bytes of a batch, one behind the other.
func inBytes(parts ...any) []byte {
	var p []byte
	for _, part := range parts {
		switch x := part.(type) {
		case uint64:
			p = appendNumber(p, x, txidBytes)
		case int:
			p = appendNumber(p, uint64(x), lengthBytes)
		case bool:
			p = appendFlag(p, x)
		case string:
			p = append(p, x...)
		}
	}
	return p
}

// appendNumber puts a number behind the others. Within the limits of size each has room in its bytes, so that codec has nothing to say.
func appendNumber(p []byte, n uint64, width int) []byte {
	digits, _ := codec.Put(n, width)
	return append(p, digits...)
}

func appendFlag(p []byte, is bool) []byte {
	if is {
		return append(p, 1)
	}
	return append(p, 0)
}
