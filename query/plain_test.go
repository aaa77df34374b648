package query_test

import (
	"cmp"
	"fmt"
	"math/rand"
	"regexp"
	"slices"
	"strconv"
	"strings"
	"testing"

	"copse/api"
	"copse/tuple"
)

func null() api.Item { return api.Item{Kind: api.ItemNull} }

func flag(n int) api.Item { return api.Item{Kind: api.ItemFlag, Num: n} }

func num(n int) api.Item { return api.Item{Kind: api.ItemNum, Num: n} }

func text(s string) api.Item { return api.Item{Kind: api.ItemText, Text: s} }

func listOf(l ...api.Item) api.Item { return api.Item{Kind: api.ItemList, List: l} }

func row(id int, l ...api.Item) api.Row { return api.Row{ID: id, Items: l} }

// deep is so many lists in one another.
func deep(n int) api.Item {
	l := listOf()
	for range n - 1 {
		l = listOf(l)
	}
	return l
}

func where(field string, sign int, x api.Item) api.Condition {
	return api.Condition{Field: field, Sign: sign, Item: x}
}

func from(table string, l ...api.Condition) api.Query {
	return api.Query{Table: table, Conditions: l}
}

func ordered(q api.Query, order string, falling bool, limit int) api.Query {
	q.Order, q.Falling, q.Limit = order, falling, limit
	return q
}

func sameItem(a, b api.Item) bool {
	return a.Kind == b.Kind && a.Num == b.Num && a.Text == b.Text && sameItems(a.List, b.List)
}

func sameItems(a, b []api.Item) bool { return slices.EqualFunc(a, b, sameItem) }

func sameCondition(a, b api.Condition) bool {
	return a.Field == b.Field && a.Sign == b.Sign && sameItem(a.Item, b.Item)
}

func sameQuery(a, b api.Query) bool {
	return a.Table == b.Table && slices.EqualFunc(a.Conditions, b.Conditions, sameCondition) && a.Order == b.Order && a.Falling == b.Falling && a.Limit == b.Limit
}

func sameRow(a, b api.Row) bool { return a.ID == b.ID && sameItems(a.Items, b.Items) }

func sameRows(a, b []api.Row) bool { return slices.EqualFunc(a, b, sameRow) }

func idsOf(l []api.Row) []int {
	var ids []int
	for _, r := range l {
		ids = append(ids, r.ID)
	}
	return ids
}

func must(t *testing.T, err error) {
	t.Helper()
	if err != nil {
		t.Fatal(err)
	}
}

func newRand(seed int64) *rand.Rand { return rand.New(rand.NewSource(seed)) }

var reservedWords = strings.Fields("from where and order by falling limit null true false")

var signTexts = []string{1: "=", 2: "<", 3: "<=", 4: ">", 5: ">="}

var (
	wordForm   = regexp.MustCompile(`^[A-Za-z_][A-Za-z0-9_]*$`)
	inWordForm = regexp.MustCompile(`[A-Za-z0-9_]`)
)

func nameText(s string) string {
	if wordForm.MatchString(s) && !slices.Contains(reservedWords, s) {
		return s
	}
	return "`" + strings.ReplaceAll(s, "`", "``") + "`"
}

// itemPieces is the tokens of an item.
func itemPieces(x api.Item) []string {
	switch x.Kind {
	case api.ItemNull:
		return []string{"null"}
	case api.ItemFlag:
		return []string{[]string{"false", "true"}[x.Num]}
	case api.ItemNum:
		return []string{fmt.Sprint(x.Num)}
	case api.ItemText:
		var s strings.Builder
		for _, b := range []byte(x.Text) {
			switch {
			case b == '"' || b == '\\':
				s.Write([]byte{'\\', b})
			case b >= 0x20 && b < 0x7f:
				s.WriteByte(b)
			default:
				fmt.Fprintf(&s, `\x%02x`, b)
			}
		}
		return []string{`"` + s.String() + `"`}
	}
	l := []string{"["}
	for i, y := range x.List {
		if i > 0 {
			l = append(l, ",")
		}
		l = append(l, itemPieces(y)...)
	}
	return append(l, "]")
}

// pieces is the tokens of a query that may be, as the chapter has them.
func pieces(q api.Query) []string {
	l := []string{"from", nameText(q.Table)}
	for i, c := range q.Conditions {
		l = append(l, []string{"where", "and"}[min(i, 1)], nameText(c.Field), signTexts[c.Sign])
		l = append(l, itemPieces(c.Item)...)
	}
	if q.Order != "" {
		l = append(l, "order", "by", nameText(q.Order))
	}
	if q.Falling {
		l = append(l, "falling")
	}
	if q.Limit != 0 {
		l = append(l, "limit", fmt.Sprint(q.Limit))
	}
	return l
}

// textOf is the text of a query that may be.
func textOf(q api.Query) string {
	var out strings.Builder
	l := pieces(q)
	for i, p := range l {
		if i > 0 && l[i-1] != "[" && p != "]" && p != "," {
			out.WriteByte(' ')
		}
		out.WriteString(p)
	}
	return out.String()
}

// runTogether tells if two tokens must have a blank between them.
func runTogether(a, b string) bool {
	if !inWordForm.MatchString(a[len(a)-1:]) || !inWordForm.MatchString(b[:1]) {
		return false
	}
	isNum := strings.ContainsAny(a[:1], "-0123456789")
	return !isNum || strings.ContainsAny(b[:1], "0123456789")
}

// blanked is tokens with blanks between them, as many as it is told for each place, but one where two would run together.
func blanked(l []string, blanks func() int) string {
	out := strings.Repeat(" ", blanks())
	for i, p := range l {
		n := blanks()
		if n == 0 && i+1 < len(l) && runTogether(p, l[i+1]) {
			n = 1
		}
		out += p + strings.Repeat(" ", n)
	}
	return out
}

// mark is a token with its class: n a name, 0 a number, t a text, = a sign, [ ] and the comma, I an item of a word, and a letter of their own for the other words. Its text is what it stands for.
type mark struct {
	class byte
	text  string
}

var tokenForm = regexp.MustCompile("^(?:([A-Za-z_][A-Za-z0-9_]*)|(`(?:[!-_a-~]|``)*`)|(-[0-9]*|[0-9]+)|(\"(?:[ !#-\\[\\]-~]|\\\\[\"\\\\]|\\\\x[0-9a-fA-F]{2})*\")|(<=|>=|=|<|>)|([][,]))")

var wordClasses = map[string]byte{"from": 'F', "where": 'W', "and": 'A', "order": 'O', "by": 'B', "falling": 'D', "limit": 'L', "null": 'I', "true": 'I', "false": 'I'}

var numForm = regexp.MustCompile(`^(0|-?[1-9][0-9]*)$`)

var escapeForm = regexp.MustCompile(`\\(x..|.)`)

// markOf is told what tokenForm has found, part by part.
func markOf(m []string) (mark, bool) {
	switch {
	case wordClasses[m[1]] != 0:
		return mark{wordClasses[m[1]], m[1]}, true
	case m[1] != "":
		return mark{'n', m[1]}, len(m[1]) <= 32
	case m[2] != "":
		name := strings.ReplaceAll(m[2][1:len(m[2])-1], "``", "`")
		return mark{'n', name}, len(name) >= 1 && len(name) <= 32
	case m[3] != "":
		_, err := strconv.ParseInt(m[3], 10, 64)
		return mark{'0', m[3]}, err == nil && numForm.MatchString(m[3])
	case m[4] != "":
		return mark{'t', escapeForm.ReplaceAllStringFunc(m[4][1:len(m[4])-1], func(e string) string {
			if len(e) == 2 {
				return e[1:]
			}
			b, _ := strconv.ParseUint(e[2:], 16, 8)
			return string([]byte{byte(b)})
		})}, true
	case m[5] != "":
		return mark{'=', m[5]}, true
	}
	return mark{m[6][0], m[6]}, true
}

// marks is the tokens of a text, if all of it is such.
func marks(s string) ([]mark, bool) {
	var l []mark
	for {
		s = strings.TrimLeft(s, " ")
		if s == "" {
			return l, true
		}
		m := tokenForm.FindStringSubmatch(s)
		if m == nil {
			return nil, false
		}
		x, ok := markOf(m)
		if !ok {
			return nil, false
		}
		l = append(l, x)
		s = s[len(m[0]):]
	}
}

var (
	listForm  = regexp.MustCompile(`\[(I(,I){0,15})?\]`)
	queryForm = regexp.MustCompile(`^Fn(Wn=I(An=I)*)?(OBnD?)?M?$`)
)

// isQuery tells if tokens are those of a query, whose items are not too long.
func isQuery(l []mark) bool {
	classes, depth := "", 0
	for i, x := range l {
		switch {
		case x.class == '0' && i > 0 && l[i-1].class == 'L':
			if x.text == "0" || x.text[0] == '-' {
				return false
			}
			classes = classes[:len(classes)-1] + "M"
			continue
		case x.class == '[':
			depth++
		case x.class == ']':
			depth--
		}
		if depth > 4 {
			return false
		}
		classes += string(rune(x.class))
	}
	classes = strings.NewReplacer("0", "I", "t", "I").Replace(classes)
	for {
		next := listForm.ReplaceAllString(classes, "I")
		if next == classes {
			return queryForm.MatchString(classes)
		}
		classes = next
	}
}

func mayBeName(s string) bool {
	return len(s) > 0 && len(s) <= 32 && strings.IndexFunc(s, func(r rune) bool { return r < '!' || r > '~' }) < 0
}

// aloneFault is what tuple.Pack says of an item alone.
func aloneFault(x api.Item) error {
	_, err := tuple.Pack([]api.Item{x})
	return err
}

// plainFault is the fault of a query.
func plainFault(q api.Query) error {
	if !mayBeName(q.Table) {
		return api.ErrArg
	}
	for _, c := range q.Conditions {
		if !mayBeName(c.Field) || c.Sign < 1 || c.Sign > 5 {
			return api.ErrArg
		}
		if err := aloneFault(c.Item); err != nil {
			return err
		}
	}
	if q.Order != "" && !mayBeName(q.Order) || q.Order == "" && q.Falling || q.Limit < 0 {
		return api.ErrArg
	}
	return nil
}

// plainCompare is the order of items that may be, as chapter 2 has it.
func plainCompare(a, b api.Item) int {
	c := cmp.Or(cmp.Compare(a.Kind, b.Kind), cmp.Compare(a.Num, b.Num), cmp.Compare(a.Text, b.Text))
	for i := 0; c == 0 && i < min(len(a.List), len(b.List)); i++ {
		c = plainCompare(a.List[i], b.List[i])
	}
	return cmp.Or(c, cmp.Compare(len(a.List), len(b.List)))
}

// fieldNumber is the first field of that name; -1: there is none.
func fieldNumber(d api.Table, name string) int {
	return slices.IndexFunc(d.Fields, func(f api.Field) bool { return f.Name == name })
}

func plainHolds(d api.Table, r api.Row, c api.Condition) bool {
	x := r.Items[fieldNumber(d, c.Field)]
	if x.Kind != c.Item.Kind {
		return false
	}
	order := plainCompare(x, c.Item)
	switch c.Sign {
	case 1:
		return order == 0
	case 2:
		return order == -1
	case 3:
		return order != 1
	case 4:
		return order == 1
	}
	return order != -1
}

func plainMatch(d api.Table, r api.Row, l []api.Condition) (bool, error) {
	if len(r.Items) != len(d.Fields) {
		return false, api.ErrArg
	}
	for _, c := range l {
		if fieldNumber(d, c.Field) < 0 {
			return false, api.ErrLost
		}
		if c.Sign < 1 || c.Sign > 5 {
			return false, api.ErrArg
		}
		if err := aloneFault(c.Item); err != nil {
			return false, err
		}
	}
	for _, x := range r.Items {
		if err := aloneFault(x); err != nil {
			return false, err
		}
	}
	return !slices.ContainsFunc(l, func(c api.Condition) bool { return !plainHolds(d, r, c) }), nil
}

func plainChoose(d api.Table, q api.Query) (api.Plan, error) {
	if q.Table != d.Name {
		return api.Plan{}, api.ErrArg
	}
	if err := plainFault(q); err != nil {
		return api.Plan{}, err
	}
	if q.Order != "" && fieldNumber(d, q.Order) < 0 || slices.ContainsFunc(q.Conditions, func(c api.Condition) bool { return fieldNumber(d, c.Field) < 0 }) {
		return api.Plan{}, api.ErrLost
	}
	isBound := func(n int) bool {
		return slices.ContainsFunc(q.Conditions, func(c api.Condition) bool {
			return fieldNumber(d, c.Field) == n && c.Sign == 1 && (c.Item.Kind == 1 || c.Item.Kind == d.Fields[n].Kind)
		})
	}
	best := api.Plan{Index: -1}
	for i, index := range d.Indexes {
		n := 0
		for n < len(index) && isBound(index[n]) {
			n++
		}
		if n > best.Bound {
			best = api.Plan{Index: i, Bound: n}
		}
	}
	return best, nil
}

// plainAnswer is what a query that may be answers of these records, by a look through all of them.
func plainAnswer(d api.Table, rows []api.Row, q api.Query) []api.Row {
	var l []api.Row
	for _, r := range rows {
		if !slices.ContainsFunc(q.Conditions, func(c api.Condition) bool { return !plainHolds(d, r, c) }) {
			l = append(l, r)
		}
	}
	slices.SortFunc(l, func(a, b api.Row) int { return cmp.Compare(a.ID, b.ID) })
	if n := fieldNumber(d, q.Order); n >= 0 {
		slices.SortStableFunc(l, func(a, b api.Row) int {
			if q.Falling {
				return plainCompare(b.Items[n], a.Items[n])
			}
			return plainCompare(a.Items[n], b.Items[n])
		})
	}
	if q.Limit > 0 && q.Limit < len(l) {
		l = l[:q.Limit]
	}
	return l
}

// randomText is one of few, so that it is met again, with bytes of every kind.
func randomText(r *rand.Rand) string {
	const bytes = "ab \"\\`x\x00\xff\x1f\x7f~"
	var l []byte
	for range r.Intn(4) {
		l = append(l, bytes[r.Intn(len(bytes))])
	}
	return string(l)
}

// randomItem is null, or an item of a kind, with room for so many lists in one another.
func randomItem(r *rand.Rand, kind, room int) api.Item {
	if r.Intn(6) == 0 {
		return null()
	}
	switch kind {
	case api.ItemFlag:
		return flag(r.Intn(2))
	case api.ItemNum:
		return num([]int{0, 1, -1, 5, 1<<63 - 1, -1 << 63, 256}[r.Intn(7)])
	case api.ItemText:
		return text(randomText(r))
	case api.ItemList:
		l := listOf()
		for range r.Intn(4) {
			l.List = append(l.List, randomItem(r, api.ItemFlag+r.Intn(min(room-1, 1)+3), room-1))
		}
		return l
	}
	return null()
}

// randomName is a name of any kind.
func randomName(r *rand.Rand) string {
	names := []string{"f", "g", "T", "_", "a_1", "fromage", "From", "NULL", "9", "a-b", "`", "``", "a`b", "\"", "\\", "[", "=", "~", "!", strings.Repeat("n", 32), strings.Repeat("`", 32)}
	if n := r.Intn(len(names) + len(reservedWords)); n >= len(names) {
		return reservedWords[n-len(names)]
	} else {
		return names[n]
	}
}

// randomQuery is one that may be.
func randomQuery(r *rand.Rand) api.Query {
	q := from(randomName(r))
	for range r.Intn(4) {
		q.Conditions = append(q.Conditions, where(randomName(r), 1+r.Intn(5), randomItem(r, 2+r.Intn(4), 4)))
	}
	if r.Intn(2) == 0 {
		q.Order, q.Falling = randomName(r), r.Intn(2) == 0
	}
	if r.Intn(2) == 0 {
		q.Limit = []int{1, 2, 10, 1<<63 - 1}[r.Intn(4)]
	}
	return q
}
