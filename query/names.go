package query

import "copse/api"

// The reserved words.
const (
	fromWord    = "from"
	whereWord   = "where"
	andWord     = "and"
	orderWord   = "order"
	byWord      = "by"
	fallingWord = "falling"
	limitWord   = "limit"
	nullWord    = "null"
	trueWord    = "true"
	falseWord   = "false"
)

func isReserved(word string) bool {
	switch word {
	case fromWord, whereWord, andWord, orderWord, byWord, fallingWord, limitWord, nullWord, trueWord, falseWord:
		return true
	}
	return false
}

func isDigit(b byte) bool { return b >= '0' && b <= '9' }

// beginsWord tells if a word may begin with a byte.
func beginsWord(b byte) bool {
	return b >= 'a' && b <= 'z' || b >= 'A' && b <= 'Z' || b == '_'
}

func isInWord(b byte) bool { return beginsWord(b) || isDigit(b) }

// lengthOf is how many bytes at the beginning of a text are such.
func lengthOf(text string, are func(b byte) bool) int {
	n := 0
	for n < len(text) && are(text[n]) {
		n++
	}
	return n
}

// isName looks at the length first: what is too long is not gone through.
func isName(s string) bool {
	if s == "" || len(s) > api.MaxName {
		return false
	}
	return lengthOf(s, func(b byte) bool { return b > blank && b <= highest }) == len(s)
}

// isPlain tells if a name is read as one without back quotes.
func isPlain(name string) bool {
	return beginsWord(name[0]) && lengthOf(name, isInWord) == len(name) && !isReserved(name)
}

// fault is the first thing for which a query may not be so.
func fault(q api.Query) error {
	if !isName(q.Table) {
		return api.ErrArg
	}
	for _, c := range q.Conditions {
		if !isName(c.Field) || !isSign(c.Sign) {
			return api.ErrArg
		}
		if err := itemFault(c.Item); err != nil {
			return err
		}
	}
	if !orderMayBe(q.Order, q.Falling) || q.Limit < 0 {
		return api.ErrArg
	}
	return nil
}

func orderMayBe(order string, falling bool) bool {
	if order == "" {
		return !falling
	}
	return isName(order)
}
