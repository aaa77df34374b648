package query

import (
	"cmp"
	"slices"

	"copse/api"
	"copse/table"
)

// hasFieldsOf tells if all fields that a query names are a table's.
func hasFieldsOf(d api.Table, q api.Query) bool {
	numbers := numbersOf(d.Fields)
	for _, c := range q.Conditions {
		if _, there := numbers[c.Field]; !there {
			return false
		}
	}
	_, there := numbers[q.Order]
	return there || q.Order == ""
}

// boundItems is what each bound field is to be, by its number, of conditions whose fields are all the table's. Of several equalities the first one is taken: a record must meet the others, too.
func boundItems(d api.Table, l []api.Condition) map[int]api.Item {
	numbers := numbersOf(d.Fields)
	bound := map[int]api.Item{}
	for _, c := range l {
		n := numbers[c.Field]
		if c.Sign != api.SignEqual || c.Item.Kind != api.ItemNull && c.Item.Kind != d.Fields[n].Kind {
			continue
		}
		if _, is := bound[n]; !is {
			bound[n] = c.Item
		}
	}
	return bound
}

// boundAhead is how many fields stand bound at the beginning of an index.
func boundAhead(index []int, bound map[int]api.Item) int {
	for i, n := range index {
		if _, is := bound[n]; !is {
			return i
		}
	}
	return len(index)
}

// known is a table's definition. Tables that table.New has not made have no store, and panic at the first thing that they are asked: this.
func known(t *table.Tables, name string) (d api.Table, err error) {
	defer func() {
		if recover() != nil {
			d, err = api.Table{}, api.ErrArg
		}
	}()
	return t.Table(name)
}

// rowsBy is the records among which those that are asked for must be, by a plan.
func rowsBy(t *table.Tables, d api.Table, q api.Query, p api.Plan) ([]api.Row, error) {
	if p.Index < 0 {
		return t.Rows(d.Name)
	}
	bound := boundItems(d, q.Conditions)
	var items []api.Item
	for _, n := range d.Indexes[p.Index][:p.Bound] {
		items = append(items, bound[n])
	}
	rows, err := t.By(d.Name, p.Index, items)
	if err == api.ErrMany { // so long are no record's items
		return nil, nil
	}
	return rows, err
}

func meeting(d api.Table, rows []api.Row, l []api.Condition) ([]api.Row, error) {
	tests, err := testsOf(d, l)
	if err != nil {
		return nil, err
	}
	var met []api.Row
	for _, r := range rows {
		ok, err := meets(r, tests)
		if err != nil {
			return nil, err
		}
		if ok {
			met = append(met, r)
		}
	}
	return met, nil
}

// orderOf is the order in which a query wants its records.
func orderOf(d api.Table, q api.Query) func(a, b api.Row) int {
	byID := func(a, b api.Row) int { return cmp.Compare(a.ID, b.ID) }
	if q.Order == "" {
		return byID
	}
	n := numbersOf(d.Fields)[q.Order]
	return func(a, b api.Row) int {
		order := compare(a.Items[n], b.Items[n])
		if q.Falling {
			order = -order
		}
		return cmp.Or(order, byID(a, b))
	}
}

// firstOf lets the others go, so that none is kept behind the end.
func firstOf(rows []api.Row, limit int) []api.Row {
	if limit == 0 || limit >= len(rows) {
		return rows
	}
	return slices.Clone(rows[:limit])
}
