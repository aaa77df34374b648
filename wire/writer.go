package wire

import (
	"strconv"
	"strings"

	"copse/api"
)

// maxElements is how many elements a list may have: a key and a value for each pair of a scan.
const maxElements = 2 * api.MaxScan

// writer is a builder that also knows the lines of the wire.
type writer struct{ strings.Builder }

// line writes one line.
func (w *writer) line(sign byte, text string) {
	w.WriteByte(sign)
	w.WriteString(text)
	w.WriteString(crlf)
}

// count writes a line that says a number.
func (w *writer) count(sign byte, n int) { w.line(sign, strconv.Itoa(n)) }

// bulk writes a text that is counted, as words of commands are, too.
func (w *writer) bulk(text string) {
	w.count('$', len(text))
	w.WriteString(text)
	w.WriteString(crlf)
}

// answer writes an answer that may be.
func (w *writer) answer(a api.Answer) {
	switch a.Kind {
	case api.WireStatus:
		w.line('+', a.Text)
	case api.WireError:
		w.line('-', a.Text)
	case api.WireNum:
		w.count(':', a.Num)
	case api.WireBulk:
		w.bulk(a.Text)
	case api.WireNone:
		w.count('$', -1)
	case api.WireList:
		w.count('*', len(a.List))
		for _, element := range a.List {
			w.answer(element)
		}
	}
}

// fault is the first fault of an answer around which so many lists lie.
func fault(a api.Answer, around int) error {
	if foreign(a) {
		return api.ErrArg
	}
	switch a.Kind {
	case api.WireStatus, api.WireError:
		return lineFault(a.Text)
	case api.WireBulk:
		if len(a.Text) > api.MaxText {
			return api.ErrMany
		}
	case api.WireList:
		return listFault(a.List, around)
	}
	return nil
}

// foreign tells whether an answer has a field that its kind has not, or is of no kind.
func foreign(a api.Answer) bool {
	num, text, list := a.Num != 0, a.Text != "", len(a.List) > 0
	switch a.Kind {
	case api.WireStatus, api.WireError, api.WireBulk:
		return num || list
	case api.WireNum:
		return text || list
	case api.WireNone:
		return num || text || list
	case api.WireList:
		return num || text
	}
	return true
}

// lineFault is the fault of a status's or an error's text.
func lineFault(text string) error {
	for i := range len(text) {
		if !printed(text[i]) {
			return api.ErrArg
		}
	}
	if len(text) > api.MaxLine {
		return api.ErrMany
	}
	return nil
}

// listFault is the first fault of a list around which so many others lie.
func listFault(list []api.Answer, around int) error {
	if around >= api.MaxNesting || len(list) > maxElements {
		return api.ErrMany
	}
	for _, element := range list {
		if err := fault(element, around+1); err != nil {
			return err
		}
	}
	return nil
}

// printed tells whether a byte may stand in a status or an error.
func printed(b byte) bool { return b >= ' ' && b != 0x7f }
