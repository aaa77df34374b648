package query

import (
	"strconv"

	"copse/api"
)

const hexDigits = "0123456789abcdef"

// appendQuery puts the text of a query that may be behind others.
func appendQuery(out []byte, q api.Query) []byte {
	out = append(out, fromWord+" "...)
	out = appendName(out, q.Table)
	out = appendConditions(out, q.Conditions)
	if q.Order != "" {
		out = append(out, " "+orderWord+" "+byWord+" "...)
		out = appendName(out, q.Order)
	}
	if q.Falling {
		out = append(out, " "+fallingWord...)
	}
	if q.Limit != 0 {
		out = append(out, " "+limitWord+" "...)
		out = strconv.AppendInt(out, int64(q.Limit), 10)
	}
	return out
}

// appendConditions stops where the text is too long already: many conditions may share the memory of one long item.
func appendConditions(out []byte, l []api.Condition) []byte {
	all := signs()
	before := whereWord
	for i := 0; i < len(l) && len(out) <= api.MaxText; i++ {
		out = append(out, " "+before+" "...)
		out = appendName(out, l[i].Field)
		out = append(out, " "+all[l[i].Sign].text+" "...)
		out = appendItem(out, l[i].Item)
		before = andWord
	}
	return out
}

func appendName(out []byte, name string) []byte {
	if isPlain(name) {
		return append(out, name...)
	}
	out = append(out, nameQuote)
	for i := range len(name) {
		if name[i] == nameQuote {
			out = append(out, nameQuote)
		}
		out = append(out, name[i])
	}
	return append(out, nameQuote)
}

func appendItem(out []byte, x api.Item) []byte {
	switch x.Kind {
	case api.ItemFlag:
		return append(out, flagWord(x.Num)...)
	case api.ItemNum:
		return strconv.AppendInt(out, int64(x.Num), 10)
	case api.ItemText:
		return appendText(out, x.Text)
	case api.ItemList:
		return appendList(out, x.List)
	}
	return append(out, nullWord...)
}

func flagWord(n int) string {
	if n == 0 {
		return falseWord
	}
	return trueWord
}

func appendText(out []byte, text string) []byte {
	out = append(out, textQuote)
	for i := range len(text) {
		switch b := text[i]; {
		case b < blank || b > highest:
			out = append(out, escape, hexSign, hexDigits[b>>4], hexDigits[b&15])
		case b == textQuote || b == escape:
			out = append(out, escape, b)
		default:
			out = append(out, b)
		}
	}
	return append(out, textQuote)
}

func appendList(out []byte, l []api.Item) []byte {
	out = append(out, listBegin...)
	for i, x := range l {
		if i > 0 {
			out = append(out, comma+" "...)
		}
		out = appendItem(out, x)
	}
	return append(out, listEnd...)
}
