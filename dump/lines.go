package dump

import (
	"strconv"

	"copse/api"
	"copse/script"
)

// The words with which lines begin: a pair's, and the last one.
const (
	putWord = "put"
	endWord = "end"
)

const blank = " "

func linesOf(l []api.Pair) []string {
	var lines []string
	for _, p := range l {
		lines = append(lines, putWord+blank+script.Quote(p.Key)+blank+script.Quote(p.Value))
	}
	return append(lines, endWord+blank+strconv.Itoa(len(l)))
}

// Read reads such lines.
func Read(lines []string) ([]api.Pair, error) {
	var l []api.Pair
	for i, line := range lines {
		words, err := script.Words(line)
		switch {
		case err != nil:
			return nil, err
		case isLine(words, putWord, 2):
			p := api.Pair{Key: words[1], Value: words[2]}
			if err := pairFault(l, p); err != nil {
				return nil, err
			}
			l = append(l, p)
		case isLine(words, endWord, 1) && words[1] == strconv.Itoa(len(l)) && i == len(lines)-1:
			return l, nil
		default:
			return nil, api.ErrText
		}
	}
	return nil, api.ErrShort
}

// isLine tells if words are that one with so many more.
func isLine(words []string, first string, more int) bool {
	return len(words) == 1+more && words[0] == first
}

// pairsFault is the fault of pairs; nil, if they have none.
func pairsFault(l []api.Pair) error {
	for i, p := range l {
		if err := pairFault(l[:i], p); err != nil {
			return err
		}
	}
	return nil
}

// pairFault is the fault that a pair brings in behind others; nil, if it brings none.
func pairFault(ahead []api.Pair, p api.Pair) error {
	switch {
	case p.Key == "" || len(p.Key) > api.MaxKey || len(p.Value) > api.MaxValue:
		return api.ErrArg
	case len(ahead) > 0 && ahead[len(ahead)-1].Key >= p.Key:
		return api.ErrOrder
	}
	return nil
}
