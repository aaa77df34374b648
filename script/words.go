package script

import (
	"strconv"
	"strings"

	"copse/api"
)

const (
	blank   = ' '
	quote   = '"'
	escape  = '\\'
	hexSign = 'x'
	comment = '#'
)

// The bytes that may be seen, the blank among them.
const (
	lowest  = 0x20
	highest = 0x7E
)

// How many bytes an escape takes: the backslash with one behind it, or with the sign and two digits.
const (
	escapeBytes = 2
	hexBytes    = 4
)

const hexDigits = "0123456789abcdef"

func canBeSeen(b byte) bool { return b >= lowest && b <= highest }

// canStandBare tells if a byte may stand in a word without quotes.
func canStandBare(b byte) bool { return canBeSeen(b) && b != blank && b != quote }

// needsEscape tells if a byte that can be seen does not stand for itself between quotes.
func needsEscape(b byte) bool { return b == quote || b == escape }

func afterBlanks(text string) string { return strings.TrimLeft(text, string(blank)) }

// Words is the words of a line.
func Words(line string) ([]string, error) {
	var words []string
	rest := afterBlanks(line)
	for rest != "" {
		word, behind, ok := cutWord(rest)
		if !ok || behind != "" && behind[0] != blank {
			return nil, api.ErrText
		}
		words = append(words, word)
		rest = afterBlanks(behind)
	}
	return words, nil
}

// cutWord is the word with which a text begins, and what stands behind it; false: it can't be read.
func cutWord(text string) (string, string, bool) {
	if text[0] == quote {
		return cutQuoted(text[1:])
	}
	word, behind := cutBare(text)
	return word, behind, true
}

func cutBare(text string) (string, string) {
	end := 0
	for end < len(text) && canStandBare(text[end]) {
		end++
	}
	return strings.Clone(text[:end]), text[end:]
}

// cutQuoted is told what stands behind the first quote.
func cutQuoted(text string) (string, string, bool) {
	var word []byte
	for text != "" && text[0] != quote {
		b, behind, ok := cutByte(text)
		if !ok {
			return "", "", false
		}
		word = append(word, b)
		text = behind
	}
	if text == "" {
		return "", "", false
	}
	return string(word), text[1:], true
}

// cutByte is the byte with which a text between quotes begins, be it escaped or not, and what stands behind it; false: it can't be read.
func cutByte(text string) (byte, string, bool) {
	switch {
	case text[0] != escape:
		return text[0], text[1:], canBeSeen(text[0])
	case len(text) >= escapeBytes && needsEscape(text[1]):
		return text[1], text[escapeBytes:], true
	case len(text) >= hexBytes && text[1] == hexSign:
		n, err := strconv.ParseUint(text[escapeBytes:hexBytes], 16, 8)
		return byte(n), text[hexBytes:], err == nil
	}
	return 0, "", false
}

// Quote is a word as Words reads it back.
func Quote(word string) string {
	if isBare(word) {
		return strings.Clone(word)
	}
	out := []byte{quote}
	for i := range len(word) {
		out = appendQuoted(out, word[i])
	}
	return string(append(out, quote))
}

// isBare tells if a word needs no quotes. Words would take a backslash, and one with # ahead that does not begin its line; Quote leaves neither bare.
func isBare(word string) bool {
	if word == "" || word[0] == comment {
		return false
	}
	for i := range len(word) {
		if !canStandBare(word[i]) || word[i] == escape {
			return false
		}
	}
	return true
}

// appendQuoted puts a byte behind others as it stands between quotes.
func appendQuoted(out []byte, b byte) []byte {
	switch {
	case !canBeSeen(b):
		return append(out, escape, hexSign, hexDigits[b>>4], hexDigits[b&15])
	case needsEscape(b):
		return append(out, escape, b)
	}
	return append(out, b)
}
