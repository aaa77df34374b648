package query

import "copse/api"

// reader reads a query out of its tokens. Each of its methods that reads a part of it goes past that part, and tells whether it stood there.
type reader struct {
	next  func() token
	ahead token // the first one that is not read yet
}

func newReader(text string) *reader {
	r := &reader{next: tokens(text)}
	r.goOn()
	return r
}

// goOn goes past a token, and answers it.
func (r *reader) goOn() token {
	t := r.ahead
	r.ahead = r.next()
	return t
}

// take goes past a token, if it is of that kind.
func (r *reader) take(kind int) (token, bool) {
	if r.ahead.kind != kind {
		return token{}, false
	}
	return r.goOn(), true
}

// takeJust goes past a word or a mark, if it is this one.
func (r *reader) takeJust(kind int, text string) bool {
	if r.ahead.text != text {
		return false
	}
	_, is := r.take(kind)
	return is
}

func (r *reader) word(word string) bool { return r.takeJust(wordToken, word) }

func (r *reader) mark(mark string) bool { return r.takeJust(markToken, mark) }

func (r *reader) query() (q api.Query, ok bool) {
	if ok = r.word(fromWord); ok {
		q.Table, ok = r.name()
	}
	if ok && r.word(whereWord) {
		q.Conditions, ok = r.conditions()
	}
	if ok && r.word(orderWord) {
		q.Order, q.Falling, ok = r.order()
	}
	if ok && r.word(limitWord) {
		q.Limit, ok = r.limit()
	}
	return q, ok && r.ahead.kind == endToken
}

func (r *reader) name() (string, bool) {
	t, ok := r.take(nameToken)
	return t.text, ok
}

// order reads what stands behind the word order.
func (r *reader) order() (name string, falling, ok bool) {
	if !r.word(byWord) {
		return "", false, false
	}
	name, ok = r.name()
	return name, ok && r.word(fallingWord), ok
}

// limit reads what stands behind the word limit.
func (r *reader) limit() (int, bool) {
	t, ok := r.take(numToken)
	return t.num, ok && t.num >= 1
}

func (r *reader) conditions() ([]api.Condition, bool) {
	var l []api.Condition
	for {
		c, ok := r.condition()
		if !ok {
			return nil, false
		}
		l = append(l, c)
		if !r.word(andWord) {
			return l, true
		}
	}
}

func (r *reader) condition() (c api.Condition, ok bool) {
	if c.Field, ok = r.name(); !ok {
		return c, false
	}
	t, ok := r.take(signToken)
	if !ok {
		return c, false
	}
	c.Sign = t.num
	c.Item, ok = r.item(api.MaxNesting)
	return c, ok
}

// item reads an item with no more lists in one another than there is room for: tuple.Pack would refuse it, and a text could lead down as far as it is long.
func (r *reader) item(room int) (api.Item, bool) {
	switch t := r.goOn(); t.kind {
	case numToken:
		return api.Item{Kind: api.ItemNum, Num: t.num}, true
	case textToken:
		return api.Item{Kind: api.ItemText, Text: t.text}, true
	case wordToken:
		return itemOfWord(t.text)
	case markToken:
		if t.text == listBegin && room > 0 {
			l, ok := r.list(room - 1)
			return api.Item{Kind: api.ItemList, List: l}, ok
		}
	}
	return api.Item{}, false
}

func itemOfWord(word string) (api.Item, bool) {
	switch word {
	case nullWord:
		return api.Item{Kind: api.ItemNull}, true
	case falseWord:
		return api.Item{Kind: api.ItemFlag}, true
	case trueWord:
		return api.Item{Kind: api.ItemFlag, Num: 1}, true
	}
	return api.Item{}, false
}

// list reads what stands behind the bracket that begins a list.
func (r *reader) list(room int) ([]api.Item, bool) {
	if r.mark(listEnd) {
		return nil, true
	}
	var l []api.Item
	for {
		x, ok := r.item(room)
		if !ok {
			return nil, false
		}
		l = append(l, x)
		if r.mark(listEnd) {
			return l, true
		}
		if !r.mark(comma) {
			return nil, false
		}
	}
}
