package query

import (
	"copse/api"
	"copse/tuple"
)

// test is a condition made ready to be held against many records.
type test struct {
	field int // its number
	item  api.Item
	holds func(order int) bool
}

// testsOf tells the first fault of the conditions, if they have one.
func testsOf(d api.Table, l []api.Condition) ([]test, error) {
	numbers, all := numbersOf(d.Fields), signs()
	var tests []test
	for _, c := range l {
		n, there := numbers[c.Field]
		if !there {
			return nil, api.ErrLost
		}
		if !isSign(c.Sign) {
			return nil, api.ErrArg
		}
		if err := itemFault(c.Item); err != nil {
			return nil, err
		}
		tests = append(tests, test{field: n, item: c.Item, holds: all[c.Sign].holds})
	}
	return tests, nil
}

// numbersOf is the number of each field by its name: of two that are alike, the first one's.
func numbersOf(fields []api.Field) map[string]int {
	numbers := map[string]int{}
	for i, f := range fields {
		if _, there := numbers[f.Name]; !there {
			numbers[f.Name] = i
		}
	}
	return numbers
}

// meets tells the first fault of the record's items, if they have one. It has an item for each field.
func meets(r api.Row, tests []test) (bool, error) {
	for _, x := range r.Items {
		if err := itemFault(x); err != nil {
			return false, err
		}
	}
	for _, t := range tests {
		if !t.isMetBy(r.Items[t.field]) {
			return false, nil
		}
	}
	return true, nil
}

// isMetBy is told an item without a fault.
func (t test) isMetBy(x api.Item) bool {
	return x.Kind == t.item.Kind && t.holds(compare(x, t.item))
}

// compare has no error to tell: both items were looked at.
func compare(a, b api.Item) int {
	order, _ := tuple.Compare([]api.Item{a}, []api.Item{b})
	return order
}
