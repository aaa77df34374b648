package query

import (
	"strconv"
	"strings"
)

// The kinds of a token.
const (
	endToken  = iota // the text is at its end
	badToken         // no token stands there
	wordToken        // a reserved word
	nameToken
	numToken
	textToken
	signToken // a condition's
	markToken // a bracket or a comma
)

// token is a piece of a text: of a name or a text what it stands for, of a number or a sign its number.
type token struct {
	kind int
	text string
	num  int
}

const (
	blank     = ' '
	highest   = '~' // of the bytes that stand for themselves in a text or a name
	nameQuote = '`'
	textQuote = '"'
	escape    = '\\'
	hexSign   = 'x'
	minus     = '-'
)

// The marks.
const (
	listBegin = "["
	listEnd   = "]"
	comma     = ","
)

// tokens is a function that goes on through the text: it answers the next token each time.
func tokens(text string) func() token {
	rest := text
	return func() token {
		var t token
		t, rest = cutToken(strings.TrimLeft(rest, string(blank)))
		return t
	}
}

// cutToken is the token with which a text begins, and what stands behind it.
func cutToken(text string) (token, string) {
	switch {
	case text == "":
		return token{kind: endToken}, ""
	case beginsWord(text[0]):
		return cutWord(text)
	case text[0] == nameQuote:
		return cutQuoted(text[1:])
	case text[0] == minus || isDigit(text[0]):
		return cutNum(text)
	case text[0] == textQuote:
		return cutText(text[1:])
	case strings.Contains(listBegin+listEnd+comma, text[:1]):
		return token{kind: markToken, text: text[:1]}, text[1:]
	}
	return cutSign(text)
}

func cutWord(text string) (token, string) {
	n := lengthOf(text, isInWord)
	if isReserved(text[:n]) {
		return token{kind: wordToken, text: text[:n]}, text[n:]
	}
	return named(text[:n]), text[n:]
}

// named is the token of a name, if it may be one. It keeps nothing of the text that it comes from.
func named(name string) token {
	if !isName(name) {
		return token{kind: badToken}
	}
	return token{kind: nameToken, text: strings.Clone(name)}
}

// cutQuoted is told what stands behind the first back quote.
func cutQuoted(text string) (token, string) {
	var name []byte
	for {
		part, behind, closed := strings.Cut(text, string(nameQuote))
		if !closed {
			return token{kind: badToken}, ""
		}
		name = append(name, part...)
		if behind == "" || behind[0] != nameQuote {
			return named(string(name)), behind
		}
		name = append(name, nameQuote)
		text = behind[1:]
	}
}

// cutNum takes a number just as it would be written: so there is no 0 ahead of others, no -0, and no - alone.
func cutNum(text string) (token, string) {
	n := 1 + lengthOf(text[1:], isDigit)
	num, err := strconv.Atoi(text[:n])
	if err != nil || strconv.Itoa(num) != text[:n] {
		return token{kind: badToken}, ""
	}
	return token{kind: numToken, num: num}, text[n:]
}

// cutText is told what stands behind the first quote.
func cutText(text string) (token, string) {
	var out []byte
	for text != "" && text[0] != textQuote {
		b, n := readByte(text)
		if n == 0 {
			return token{kind: badToken}, ""
		}
		out = append(out, b)
		text = text[n:]
	}
	if text == "" {
		return token{kind: badToken}, ""
	}
	return token{kind: textToken, text: string(out)}, text[1:]
}

// readByte is the byte that stands first between quotes, and how many bytes it is written with: 0, if there is none.
func readByte(text string) (byte, int) {
	if text[0] != escape {
		if text[0] < blank || text[0] > highest {
			return 0, 0
		}
		return text[0], 1
	}
	if len(text) >= 2 && (text[1] == textQuote || text[1] == escape) {
		return text[1], 2
	}
	if len(text) >= 4 && text[1] == hexSign {
		if b, err := strconv.ParseUint(text[2:4], 16, 8); err == nil {
			return byte(b), 4
		}
	}
	return 0, 0
}

// cutSign looks for the last sign first, so that those of two bytes come ahead of the one that they begin with.
func cutSign(text string) (token, string) {
	all := signs()
	for n := len(all) - 1; isSign(n); n-- {
		if behind, is := strings.CutPrefix(text, all[n].text); is {
			return token{kind: signToken, num: n}, behind
		}
	}
	return token{kind: badToken}, ""
}
