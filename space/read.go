package space

import (
	"iter"

	"copse/api"
	"copse/tuple"
)

// textMark is what every text of a list begins with whose first item is a text (layer 2): so every head, too.
const textMark = "\x04"

// endOf is the least text above all that begin so: there is one, for textMark is ahead of whatever comes here.
func endOf(begin string) string {
	end, _ := tuple.Above(begin)
	return end
}

// pairsFrom goes through the pairs of the store, rising, from a key on and below another one. At first it reads no more than a few, for who asks may leave early.
func (p *Spaces) pairsFrom(from, to string, few int) iter.Seq2[api.Pair, error] {
	return func(yield func(api.Pair, error) bool) {
		at := from
		for portion := few; ; portion = min(10*portion, api.MaxScan) {
			pairs, err := p.store.Scan(at, to, portion)
			if err != nil {
				yield(api.Pair{}, err)
				return
			}
			for _, pair := range pairs {
				if !yield(pair, nil) {
					return
				}
			}
			if len(pairs) < portion {
				return
			}
			at = pairs[portion-1].Key + "\x00"
		}
	}
}

// pairsUnder goes through the pairs whose keys begin so, of which about so many are wanted: one more is read, for the first may be a head.
func (p *Spaces) pairsUnder(begin string, wanted int) iter.Seq2[api.Pair, error] {
	return p.pairsFrom(begin, endOf(begin), 1+min(wanted, api.MaxScan-1))
}

func (p *Spaces) allUnder(begin string) ([]api.Pair, error) {
	var all []api.Pair
	for pair, err := range p.pairsUnder(begin, api.MaxScan) {
		if err != nil {
			return nil, err
		}
		all = append(all, pair)
	}
	return all, nil
}

// nameFrom is the name whose head is the first at or above a key; false: there is none.
func (p *Spaces) nameFrom(from string) (string, bool, error) {
	for pair, err := range p.pairsFrom(from, endOf(textMark), 1) {
		if err != nil {
			return "", false, err
		}
		if name, is := nameOf(pair.Key); is {
			return name, true, nil
		}
	}
	return "", false, nil
}

// nameOf is the name whose head a key is.
func nameOf(key string) (string, bool) {
	l, err := tuple.Unpack(key)
	if err != nil || len(l) != 1 || !isName(l[0].Text) {
		return "", false
	}
	return l[0].Text, true
}
