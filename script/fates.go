package script

import (
	"strings"

	"copse/api"
)

// mostDigits is how many a number may have.
const mostDigits = 9

// numberOf is the number that a word says.
func numberOf(word string) (int, error) {
	if len(word) < 1 || len(word) > mostDigits {
		return 0, api.ErrArg
	}
	n := 0
	for i := range len(word) {
		digit := word[i]
		if digit < '0' || digit > '9' {
			return 0, api.ErrArg
		}
		n = 10*n + int(digit-'0')
	}
	return n, nil
}

// fatesOf is the fates that words say.
func fatesOf(words []string) ([]api.Fate, error) {
	var fates []api.Fate
	for _, word := range words {
		f, err := fateOf(word)
		if err != nil {
			return nil, err
		}
		fates = append(fates, f)
	}
	return fates, nil
}

func fateOf(word string) (api.Fate, error) {
	kind, rest, _ := strings.Cut(word, "=")
	switch kind {
	case "keep":
		return wholeFate(api.FateKeep, rest)
	case "drop":
		return wholeFate(api.FateDrop, rest)
	case "tear":
		return tornFate(rest)
	}
	return api.Fate{}, api.ErrArg
}

// wholeFate is the fate of a write that stays or goes as a whole.
func wholeFate(kind int, index string) (api.Fate, error) {
	i, err := numberOf(index)
	return api.Fate{Index: i, Kind: kind}, err
}

// tornFate is told what stands behind the sign of equality. The junk is the rest of it, colons too.
func tornFate(text string) (api.Fate, error) {
	index, behind, _ := strings.Cut(text, ":")
	cut, junk, isWhole := strings.Cut(behind, ":")
	f, err := wholeFate(api.FateTear, index)
	if err != nil {
		return api.Fate{}, err
	}
	f.Cut, err = numberOf(cut)
	if err != nil || !isWhole {
		return api.Fate{}, api.ErrArg
	}
	f.Junk = junk
	return f, nil
}
