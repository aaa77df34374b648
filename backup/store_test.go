package backup_test

import (
	"fmt"
	"maps"
	"math/rand"
	"slices"
	"strings"
	"testing"

	"copse/api"
	"copse/backup"
	"copse/branch"
	"copse/device"
	"copse/kv"
	"copse/leaf"
	"copse/sheet"
	"copse/walk"
)

// pairs are of keys and values, in turns.
func pairs(texts ...string) []api.Pair {
	var l []api.Pair
	for i := 0; i+1 < len(texts); i += 2 {
		l = append(l, api.Pair{Key: texts[i], Value: texts[i+1]})
	}
	return l
}

// big are pairs of 700 bytes of key and value each: three of them are enough for a leaf, and five have room in one.
func big(keys ...string) []api.Pair {
	var l []api.Pair
	for _, k := range keys {
		l = append(l, api.Pair{Key: k, Value: strings.Repeat("v", 700-len(k))})
	}
	return l
}

// alike are so many rising pairs of one size.
func alike(n, width int) []api.Pair {
	var l []api.Pair
	for i := range n {
		l = append(l, api.Pair{Key: fmt.Sprintf("%05d", i), Value: strings.Repeat(letter(i%26), width)})
	}
	return l
}

func letter(i int) string { return string(rune('a' + i)) }

// parcel is a page sealed as a parcel.
func parcel(t *testing.T, s api.Sheet) api.Parcel {
	t.Helper()
	p, err := sheet.Seal(s)
	must(t, err)
	return api.Parcel{ID: s.ID, Txid: s.Txid, Data: string(p)}
}

func leafParcel(t *testing.T, id int, txid uint64, l []api.Pair) api.Parcel {
	t.Helper()
	body, err := leaf.Encode(l)
	must(t, err)
	return parcel(t, api.Sheet{Kind: api.KindLeaf, ID: id, Txid: txid, Count: len(l), Body: body})
}

// anyParcel is a page that is a leaf of one pair that tells which page and transaction it is of.
func anyParcel(t *testing.T, id int, txid uint64) api.Parcel {
	t.Helper()
	return leafParcel(t, id, txid, pairs(fmt.Sprint("page ", id), fmt.Sprint("by ", txid)))
}

func branchParcel(t *testing.T, id int, txid uint64, kids []int, keys ...string) api.Parcel {
	t.Helper()
	b := api.Branch{First: kids[0]}
	for i, k := range keys {
		b.Links = append(b.Links, api.Link{Key: k, Child: kids[i+1]})
	}
	body, err := branch.Encode(b)
	must(t, err)
	return parcel(t, api.Sheet{Kind: api.KindBranch, ID: id, Txid: txid, Count: len(kids), Body: body})
}

// wholeOf is a whole archive of just these parcels, which rise.
func wholeOf(pages, root int, txid uint64, l ...api.Parcel) api.Archive {
	a := api.Archive{Meta: api.Meta{Pages: pages, Root: root, Txid: txid}, Parcels: l}
	for _, x := range l {
		a.Pages = append(a.Pages, x.ID)
	}
	return summed(a)
}

// take is an archive that must be there, and is as the plain form has it.
func take(t *testing.T, d *device.Device, since uint64) api.Archive {
	t.Helper()
	want, err := plainTake(d, since)
	must(t, err)
	a, err := backup.Take(d, since)
	if err != nil || !same(a, want) {
		t.Fatalf("Take since %d: %s, %v; want %s", since, show(a), err, show(want))
	}
	return a
}

// merge is a merged archive that must be there, and is as the plain form has it.
func merge(t *testing.T, a, b api.Archive) api.Archive {
	t.Helper()
	want, err := plainMerge(a, b)
	must(t, err)
	got, err := backup.Merge(a, b)
	if err != nil || !same(got, want) {
		t.Fatalf("Merge: %s, %v; want %s", show(got), err, show(want))
	}
	return got
}

func opened(t *testing.T, sectors int) (*kv.Store, *device.Device) {
	t.Helper()
	d := device.New(sectors)
	s := kv.New(d)
	must(t, s.Format())
	must(t, s.Open())
	return s, d
}

// storeOf is a store with these pairs, put in so many transactions, the last of which has all that are left.
func storeOf(t *testing.T, sectors, transactions int, l []api.Pair) *device.Device {
	t.Helper()
	s, d := opened(t, sectors)
	for i := range transactions {
		must(t, s.Begin())
		some := l[:len(l)/(transactions-i)]
		l = l[len(some):]
		for _, p := range some {
			must(t, s.Put(p.Key, p.Value))
		}
		must(t, s.Commit())
	}
	return d
}

// example is the store of the chapter's examples.
func example(t *testing.T) *device.Device {
	t.Helper()
	return storeOf(t, 80, 2, pairs("a", "1", "b", "2"))
}

// history is a store that is changed in transactions, and what it should hold.
type history struct {
	t    *testing.T
	r    *rand.Rand
	d    *device.Device
	s    *kv.Store
	book map[string]string
	size int
}

func newHistory(t *testing.T, seed int64, sectors, size int) *history {
	t.Helper()
	s, d := opened(t, sectors)
	return &history{t: t, r: rand.New(rand.NewSource(seed)), d: d, s: s, book: map[string]string{}, size: size}
}

func (h *history) step(keys int) {
	h.t.Helper()
	key := fmt.Sprintf("%04d", h.r.Intn(keys))
	if key[3] > '2' { // long keys make a tree of several levels
		key += strings.Repeat("k", 27*int(key[3]-'0'))
	}
	if h.r.Intn(5) < 2 {
		_, err := h.s.Delete(key)
		must(h.t, err)
		delete(h.book, key)
		return
	}
	value := strings.Repeat(letter(h.r.Intn(26)), h.r.Intn(h.size))
	must(h.t, h.s.Put(key, value))
	h.book[key] = value
}

// transact makes some steps and commits them.
func (h *history) transact(steps, keys int) {
	h.t.Helper()
	must(h.t, h.s.Begin())
	for range steps {
		h.step(keys)
	}
	must(h.t, h.s.Commit())
}

// empty takes all pairs away.
func (h *history) empty() {
	h.t.Helper()
	must(h.t, h.s.Begin())
	for _, p := range inOrder(h.book) {
		_, err := h.s.Delete(p.Key)
		must(h.t, err)
	}
	h.book = map[string]string{}
	must(h.t, h.s.Commit())
}

// failing lets the power fail somewhere in a commit; the store is opened anew, and holds what was durable or what was committed.
func (h *history) failing(steps, keys int) {
	h.t.Helper()
	before := maps.Clone(h.book)
	must(h.t, h.s.Begin())
	for range steps {
		h.step(keys)
	}
	var fates []api.Fate
	for i := range 400 {
		fates = append(fates, api.Fate{Index: i, Kind: 1 + h.r.Intn(3), Cut: h.r.Intn(512)})
	}
	h.d.Arm(h.r.Intn(12), fates)
	err := h.s.Commit()
	if err == nil {
		h.d.Crash(nil)
	}
	h.d = clone(h.t, h.d)
	h.s = kv.New(h.d)
	must(h.t, h.s.Open())
	l, errContent := walk.Content(h.d)
	must(h.t, errContent)
	if err != nil && slices.Equal(l, inOrder(before)) {
		h.book = before
	}
	if !slices.Equal(l, inOrder(h.book)) {
		h.t.Fatalf("behind a failure: %s", showPairs(l))
	}
}

func inOrder(book map[string]string) []api.Pair {
	var l []api.Pair
	for _, k := range slices.Sorted(maps.Keys(book)) {
		l = append(l, api.Pair{Key: k, Value: book[k]})
	}
	return l
}

// stores are devices with stores of all kinds on them: empty ones, of one leaf, of two, and of several levels; at transactions that are even and odd.
func stores(t *testing.T) map[string]*device.Device {
	t.Helper()
	h := newHistory(t, 23, 8*300+3, 700)
	for range 15 {
		h.transact(60, 400)
	}
	emptied := newHistory(t, 24, 8*100, 300)
	emptied.transact(60, 100)
	emptied.empty()
	return map[string]*device.Device{
		"empty":                      storeOf(t, 8*4, 0, nil),
		"empty at a transaction":     storeOf(t, 8*9+7, 3, nil),
		"emptied":                    emptied.d,
		"of one leaf":                example(t),
		"of one leaf, odd":           storeOf(t, 8*4, 1, pairs("a", "1")),
		"of two leaves":              storeOf(t, 8*12, 4, alike(8, 690)),
		"of many pages":              h.d,
		"of many pages, at one once": storeOf(t, 8*250, 1, alike(500, 690)),
	}
}
