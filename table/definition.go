package table

import (
	"strings"

	"copse/api"
	"copse/tuple"
)

// pick takes the items of an index's fields out of those of a record.
type pick func(items []api.Item) []api.Item

// definition is what is known of a table, with what its indexes pick.
type definition struct {
	table api.Table
	picks []pick
}

func isName(name string) bool {
	if len(name) < 1 || len(name) > api.MaxName {
		return false
	}
	for i := range len(name) {
		if name[i] < 0x21 || name[i] > 0x7E {
			return false
		}
	}
	return true
}

// mayBe looks at how many there are first: what is too many is not gone through.
func mayBe(d api.Table) bool {
	if !isName(d.Name) || len(d.Fields) > api.MaxFields || len(d.Indexes) > api.MaxIndexes {
		return false
	}
	return fieldsMayBe(d.Fields) && indexesMayBe(d.Indexes, len(d.Fields))
}

func fieldsMayBe(fields []api.Field) bool {
	numbers := numbersOf(fields)
	for i, f := range fields {
		if !isName(f.Name) || numbers[f.Name] != i || f.Kind < api.ItemFlag || f.Kind > api.ItemList {
			return false
		}
	}
	return len(fields) >= 1
}

// numbersOf is the number of each field by its name: of two that are alike, the last one's.
func numbersOf(fields []api.Field) map[string]int {
	numbers := map[string]int{}
	for i, f := range fields {
		numbers[f.Name] = i
	}
	return numbers
}

func indexesMayBe(indexes [][]int, fields int) bool {
	for _, index := range indexes {
		if !indexMayBe(index, fields) {
			return false
		}
	}
	return true
}

func indexMayBe(index []int, fields int) bool {
	var used [api.MaxFields]bool
	for _, n := range index {
		if n < 0 || n >= fields || used[n] {
			return false
		}
		used[n] = true
	}
	return len(index) >= 1
}

// definitionItems is a table's definition as items.
func definitionItems(d api.Table) []api.Item {
	var fields, indexes []api.Item
	for _, f := range d.Fields {
		fields = append(fields, listItem([]api.Item{textItem(f.Name), numItem(f.Kind)}))
	}
	for _, index := range d.Indexes {
		var numbers []api.Item
		for _, n := range index {
			numbers = append(numbers, numItem(n))
		}
		indexes = append(indexes, listItem(numbers))
	}
	return []api.Item{listItem(fields), listItem(indexes)}
}

// readDefinition is ErrCorrupt, if something else lies there: who goes on with a definition need not look if its numbers are fields'.
func readDefinition(name, value string) (definition, error) {
	l, err := tuple.Unpack(value)
	if err != nil || len(l) != 2 {
		return definition{}, api.ErrCorrupt
	}
	d := api.Table{Name: strings.Clone(name), Indexes: readIndexes(l[1].List)}
	for _, f := range l[0].List {
		if len(f.List) != 2 {
			return definition{}, api.ErrCorrupt
		}
		d.Fields = append(d.Fields, api.Field{Name: f.List[0].Text, Kind: f.List[1].Num})
	}
	if !mayBe(d) {
		return definition{}, api.ErrCorrupt
	}
	return definition{table: d, picks: picksOf(d.Indexes)}, nil
}

func readIndexes(l []api.Item) [][]int {
	var indexes [][]int
	for _, x := range l {
		var index []int
		for _, n := range x.List {
			index = append(index, n.Num)
		}
		indexes = append(indexes, index)
	}
	return indexes
}

func picksOf(indexes [][]int) []pick {
	var picks []pick
	for _, index := range indexes {
		picks = append(picks, func(items []api.Item) []api.Item {
			var picked []api.Item
			for _, n := range index {
				picked = append(picked, items[n])
			}
			return picked
		})
	}
	return picks
}

func fits(x api.Item, kind int) bool { return x.Kind == api.ItemNull || x.Kind == kind }

// recordFault is what is wrong with a record, whatever lies in the store, but for its length.
func (d definition) recordFault(r api.Row) error {
	if r.ID < 0 || len(r.Items) != len(d.table.Fields) {
		return api.ErrArg
	}
	for i, f := range d.table.Fields {
		if !fits(r.Items[i], f.Kind) {
			return api.ErrKind
		}
	}
	_, err := tuple.Pack(r.Items)
	return err
}

// askingFault is what is wrong with items that are asked for by an index, but for their length.
func (d definition) askingFault(index int, items []api.Item) error {
	if index < 0 || index >= len(d.table.Indexes) || len(items) > len(d.table.Indexes[index]) {
		return api.ErrArg
	}
	for i, x := range items {
		if !fits(x, d.table.Fields[d.table.Indexes[index][i]].Kind) {
			return api.ErrKind
		}
	}
	_, err := tuple.Pack(items)
	return err
}

// record is what lies in the store as a record; ErrCorrupt, if it is none of this table: an index could pick nothing out of it.
func (d definition) record(id int, value string) (api.Row, error) {
	items, err := tuple.Unpack(value)
	if err != nil || len(items) != len(d.table.Fields) {
		return api.Row{}, api.ErrCorrupt
	}
	return api.Row{ID: id, Items: items}, nil
}
