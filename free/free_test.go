package free_test

import (
	"fmt"
	"math"
	"math/bits"
	"math/rand"
	"runtime"
	"slices"
	"testing"
	"time"

	"copse/api"
	"copse/free"
)

const (
	minPages = 4
	maxPages = 1 << 20
)

// smallSizes are the least ones, and those around the multiples of 64.
func smallSizes() []int {
	return []int{4, 5, 6, 7, 8, 33, 62, 63, 64, 65, 66, 126, 127, 128, 129, 130, 191, 192, 193, 1000, 1023, 1024, 1025}
}

func greatSizes() []int {
	return []int{maxPages - 65, maxPages - 64, maxPages - 63, maxPages - 1, maxPages}
}

func allSizes() []int { return append(smallSizes(), greatSizes()...) }

// book holds a page's state each, and does what the chapter's words say, page by page.
type book struct {
	taken []bool
}

func newBook(pages int) *book {
	b := &book{taken: make([]bool, pages)}
	b.taken[0], b.taken[1] = true, true
	return b
}

func (b *book) isTreePage(id int) bool { return id >= 2 && id <= len(b.taken)-1 }

func (b *book) Mark(id int) error {
	if !b.isTreePage(id) {
		return api.ErrArg
	}
	if b.taken[id] {
		return api.ErrTwice
	}
	b.taken[id] = true
	return nil
}

func (b *book) Clear(id int) error {
	if !b.isTreePage(id) {
		return api.ErrArg
	}
	if !b.taken[id] {
		return api.ErrLost
	}
	b.taken[id] = false
	return nil
}

func (b *book) Used(id int) bool { return id >= 0 && id < len(b.taken) && b.taken[id] }

// free is the pages that are free, rising.
func (b *book) free() []int {
	var l []int
	for id, taken := range b.taken {
		if !taken {
			l = append(l, id)
		}
	}
	return l
}

func (b *book) Take(n int) ([]int, error) {
	if n < 0 {
		return nil, api.ErrArg
	}
	l := b.free()
	if n > len(l) {
		return nil, api.ErrFull
	}
	for _, id := range l[:n] {
		b.taken[id] = true
	}
	return l[:n:n], nil
}

func (b *book) Copy() *book { return &book{taken: slices.Clone(b.taken)} }

func short(l []int) string { return fmt.Sprintf("%.120s", fmt.Sprint(l)) }

func newMap(t *testing.T, pages int) *free.Map {
	t.Helper()
	m, err := free.New(pages)
	if m == nil || err != nil {
		t.Fatalf("New(%d): %v", pages, err)
	}
	return m
}

// mapOf is a map and its book, of which these pages are taken.
func mapOf(t *testing.T, pages int, taken ...int) (*free.Map, *book) {
	t.Helper()
	m, b := newMap(t, pages), newBook(pages)
	for _, id := range taken {
		if m.Mark(id) != nil || b.Mark(id) != nil {
			t.Fatalf("Mark(%d) of %d pages", id, pages)
		}
	}
	return m, b
}

func wantError(t *testing.T, what string, got, want error) {
	t.Helper()
	if got != want {
		t.Fatalf("%s: %v, want %v", what, got, want)
	}
}

func wantMark(t *testing.T, m *free.Map, id int, want error) {
	t.Helper()
	if got := m.Mark(id); got != want {
		t.Fatalf("Mark(%d) of %d pages: %v, want %v", id, m.Size(), got, want)
	}
}

func wantClear(t *testing.T, m *free.Map, id int, want error) {
	t.Helper()
	if got := m.Clear(id); got != want {
		t.Fatalf("Clear(%d) of %d pages: %v, want %v", id, m.Size(), got, want)
	}
}

func wantUsed(t *testing.T, m *free.Map, id int, want bool) {
	t.Helper()
	if got := m.Used(id); got != want {
		t.Fatalf("Used(%d) of %d pages: %v", id, m.Size(), got)
	}
}

func wantFree(t *testing.T, m *free.Map, want int) {
	t.Helper()
	if got := m.Free(); got != want {
		t.Fatalf("Free of %d pages: %d, want %d", m.Size(), got, want)
	}
}

func wantTake(t *testing.T, m *free.Map, n int, want []int) {
	t.Helper()
	if got, err := m.Take(n); err != nil || !slices.Equal(got, want) {
		t.Fatalf("Take(%d) of %d pages: %s, %v, want %s", n, m.Size(), short(got), err, short(want))
	}
}

func wantNotTaken(t *testing.T, m *free.Map, n int, want error) {
	t.Helper()
	if got, err := m.Take(n); err != want || len(got) != 0 {
		t.Fatalf("Take(%d) of %d pages: %s, %v, want %v", n, m.Size(), short(got), err, want)
	}
}

// strangers are numbers of no page in a map of that size: also those that lie with the last page in one word.
func strangers(pages int) []int {
	l := []int{math.MinInt, math.MinInt + 1, -maxPages, -pages, -65, -64, -63, -2, -1}
	for id := pages; id <= (pages/64+2)*64; id++ {
		l = append(l, id)
	}
	return append(l, 2*maxPages, 1<<32, 1<<32+2, 1<<62, math.MaxInt-63, math.MaxInt-1, math.MaxInt)
}

// wantAs: says the map what the book says, of every page and of numbers that are none?
func wantAs(t *testing.T, what string, m *free.Map, b *book) {
	t.Helper()
	if m.Size() != len(b.taken) {
		t.Fatalf("%s: Size %d, want %d", what, m.Size(), len(b.taken))
	}
	taken := 0
	for id, want := range b.taken {
		if got := m.Used(id); got != want {
			t.Fatalf("%s: Used(%d) of %d pages: %v", what, id, len(b.taken), got)
		}
		if want {
			taken++
		}
	}
	if got := m.Free(); got+taken != len(b.taken) {
		t.Fatalf("%s: %d are free and %d taken of %d pages", what, got, taken, len(b.taken))
	}
	if i := slices.IndexFunc(strangers(len(b.taken)), m.Used); i >= 0 {
		t.Fatalf("%s: a page of the number %d is taken, of %d", what, strangers(len(b.taken))[i], len(b.taken))
	}
}

// upTo is the numbers from the one on to the other, that one too.
func upTo(from, to int) []int {
	var l []int
	for id := from; id <= to; id++ {
		l = append(l, id)
	}
	return l
}

// ---- P9.1, P9.2 ----

func TestP9_1_Sizes(t *testing.T) {
	for _, pages := range allSizes() {
		m := newMap(t, pages)
		wantFree(t, m, pages-2)
		wantAs(t, "New", m, newBook(pages))
	}
	for pages := minPages; pages <= 300; pages++ {
		wantAs(t, "New", newMap(t, pages), newBook(pages))
	}
}

func TestP9_1_Refusals(t *testing.T) {
	for _, pages := range []int{3, 2, 1, 0, -1, -4, -64, -maxPages, math.MinInt, math.MinInt + 1, math.MinInt + 64, maxPages + 1, maxPages + 63, maxPages + 64, 2 * maxPages, 1 << 32, 1<<32 + 8, 1 << 62, math.MaxInt - 63, math.MaxInt - 1, math.MaxInt} {
		if m, err := free.New(pages); m != nil || err != api.ErrArg {
			t.Errorf("New(%d): %v, %v", pages, m != nil, err)
		}
	}
}

func TestP9_1_MapsApart(t *testing.T) {
	for _, pages := range smallSizes() {
		first, second := newMap(t, pages), newMap(t, pages)
		wantMark(t, first, 2, nil)
		wantAs(t, "another map", second, newBook(pages))
		wantAs(t, "a later map", newMap(t, pages), newBook(pages))
	}
}

func TestP9_2_FreeAndUsed(t *testing.T) {
	for _, pages := range smallSizes() {
		m, b := mapOf(t, pages)
		for id := 2; id < pages; id++ {
			wantUsed(t, m, id, false)
			wantMark(t, m, id, nil)
			wantError(t, "the book", b.Mark(id), nil)
			wantFree(t, m, pages-id-1)
			wantAs(t, "from the front", m, b)
		}
		for id := pages - 1; id >= 2; id-- {
			wantClear(t, m, id, nil)
			wantError(t, "the book", b.Clear(id), nil)
			wantFree(t, m, pages-id)
			wantAs(t, "from the back", m, b)
		}
	}
}

// ---- P9.3, P9.4 ----

func TestP9_3_P9_4_EachPageAlone(t *testing.T) {
	for _, pages := range smallSizes() {
		for id := 2; id < pages; id++ {
			m, b := mapOf(t, pages, id)
			wantAs(t, "one page", m, b)
			wantMark(t, m, id, api.ErrTwice)
			wantAs(t, "marked twice", m, b)
			wantClear(t, m, id, nil)
			wantAs(t, "cleared", m, newBook(pages))
			wantClear(t, m, id, api.ErrLost)
			wantAs(t, "cleared twice", m, newBook(pages))
			wantMark(t, m, id, nil)
			wantAs(t, "marked again", m, b)
		}
	}
}

func TestP9_3_P9_4_Edges(t *testing.T) {
	for _, pages := range allSizes() {
		m := newMap(t, pages)
		for _, id := range []int{2, pages - 1} {
			wantClear(t, m, id, api.ErrLost)
			wantMark(t, m, id, nil)
			wantUsed(t, m, id, true)
			wantMark(t, m, id, api.ErrTwice)
			wantUsed(t, m, id, true)
			wantClear(t, m, id, nil)
			wantUsed(t, m, id, false)
			wantClear(t, m, id, api.ErrLost)
			wantUsed(t, m, id, false)
			wantMark(t, m, id, nil)
			wantUsed(t, m, id, true)
		}
		wantFree(t, m, pages-4)
	}
}

// wantForeign: Mark and Clear take neither the metas' pages nor numbers of no page, and change nothing by them.
func wantForeign(t *testing.T, what string, m *free.Map, b *book) {
	t.Helper()
	for _, id := range append([]int{0, 1}, strangers(len(b.taken))...) {
		wantMark(t, m, id, api.ErrArg)
		wantClear(t, m, id, api.ErrArg)
		wantMark(t, m, id, api.ErrArg)
		if m.Free() != len(b.free()) {
			t.Fatalf("%s: Free is %d behind Mark and Clear of %d, want %d", what, m.Free(), id, len(b.free()))
		}
	}
	wantAs(t, what, m, b)
}

// The pages 0 and 1 are taken, those behind the last are not: both count as no number of the tree's pages first.
func TestP9_3_P9_4_NumbersOfNoTreePage(t *testing.T) {
	for _, pages := range smallSizes() {
		m, b := mapOf(t, pages)
		wantForeign(t, "a map that is free", m, b)
		m, b = mapOf(t, pages, upTo(2, pages-1)...)
		wantForeign(t, "a map that is full", m, b)
		m, b = mapOf(t, pages, pages-1)
		wantForeign(t, "a map with the last page taken", m, b)
	}
	m := newMap(t, maxPages)
	for _, id := range append([]int{0, 1}, strangers(maxPages)...) {
		wantMark(t, m, id, api.ErrArg)
		wantClear(t, m, id, api.ErrArg)
	}
	wantAs(t, "the greatest map", m, newBook(maxPages))
}

func TestP9_4_ClearsWhatWasGivenOut(t *testing.T) {
	for _, pages := range smallSizes() {
		m, b := mapOf(t, pages)
		wantTake(t, m, pages-2, upTo(2, pages-1))
		for id := 2; id < pages; id++ {
			wantMark(t, m, id, api.ErrTwice)
			wantClear(t, m, id, nil)
			wantClear(t, m, id, api.ErrLost)
		}
		wantAs(t, "all cleared", m, b)
	}
}

// ---- P9.5 ----

func TestP9_5_Amounts(t *testing.T) {
	for _, pages := range smallSizes() {
		for _, n := range []int{0, 1, 2, (pages - 2) / 2, pages - 3, pages - 2} {
			m, b := mapOf(t, pages)
			want, _ := b.Take(n)
			wantTake(t, m, n, want)
			wantAs(t, fmt.Sprintf("Take(%d)", n), m, b)
		}
	}
	for _, pages := range greatSizes() {
		m := newMap(t, pages)
		wantTake(t, m, pages-3, upTo(2, pages-2))
		wantFree(t, m, 1)
		wantTake(t, m, 1, []int{pages - 1})
		wantFree(t, m, 0)
		wantNotTaken(t, m, 1, api.ErrFull)
		wantTake(t, m, 0, nil)
	}
}

func TestP9_5_OneByOne(t *testing.T) {
	for _, pages := range smallSizes() {
		m, b := mapOf(t, pages)
		for id := 2; id < pages; id++ {
			wantTake(t, m, 0, nil)
			wantTake(t, m, 1, []int{id})
			b.taken[id] = true
			wantAs(t, "one by one", m, b)
		}
		wantNotTaken(t, m, 1, api.ErrFull)
		wantTake(t, m, 0, nil)
		wantAs(t, "nothing is left", m, b)
	}
}

// wantRefused: what Take refuses, of a map of which so many pages are free.
func wantRefused(t *testing.T, what string, m *free.Map, b *book) {
	t.Helper()
	left := len(b.free())
	for _, n := range []int{-1, -2, -64, -left - 1, -maxPages, math.MinInt, math.MinInt + 1} {
		wantNotTaken(t, m, n, api.ErrArg)
	}
	for _, n := range []int{left + 1, left + 2, left + 64, left + 65, len(b.taken) + 1, maxPages + 1, 1 << 32, 1<<32 + 1, 1 << 62, math.MaxInt - 1, math.MaxInt} {
		wantNotTaken(t, m, n, api.ErrFull)
	}
	wantAs(t, what, m, b)
}

func TestP9_5_Refusals(t *testing.T) {
	for _, pages := range append(smallSizes(), maxPages-1, maxPages) {
		m, b := mapOf(t, pages)
		wantRefused(t, "a map that is free", m, b)
		wantTake(t, m, pages-2, upTo(2, pages-1))
		b.Take(pages - 2)
		wantRefused(t, "a map that is full", m, b)
		wantClear(t, m, pages-1, nil)
		b.Clear(pages - 1)
		wantRefused(t, "a map with the last page free", m, b)
		wantClear(t, m, 2, nil)
		b.Clear(2)
		wantRefused(t, "a map with two pages free", m, b)
		wantTake(t, m, 2, []int{2, pages - 1})
	}
}

// What was refused changes nothing of what is given out behind it.
func TestP9_5_GoesOnBehindARefusal(t *testing.T) {
	m, b := mapOf(t, 200, upTo(10, 150)...)
	wantNotTaken(t, m, 58, api.ErrFull)
	wantNotTaken(t, m, -1, api.ErrArg)
	want, _ := b.Take(57)
	wantTake(t, m, 57, want)
	wantAs(t, "behind a refusal", m, b)
}

func TestP9_5_OverWordsThatAreFull(t *testing.T) {
	for _, c := range []struct {
		pages    int
		from, to int // the pages that are taken
		n        int
		want     []int
	}{
		{200, 2, 63, 1, []int{64}},
		{200, 2, 64, 1, []int{65}},
		{200, 3, 63, 2, []int{2, 64}},
		{200, 3, 127, 3, []int{2, 128, 129}},
		{200, 64, 127, 64, append(upTo(2, 63), 128, 129)},
		{200, 63, 128, 63, append(upTo(2, 62), 129, 130)},
		{200, 2, 198, 1, []int{199}},
		{192, 2, 190, 1, []int{191}},
		{193, 2, 191, 1, []int{192}},
		{maxPages, 2, maxPages - 2, 1, []int{maxPages - 1}},
		{maxPages, 3, maxPages - 2, 2, []int{2, maxPages - 1}},
		{maxPages - 1, 3, maxPages - 3, 2, []int{2, maxPages - 2}},
	} {
		m, b := mapOf(t, c.pages, upTo(c.from, c.to)...)
		wantTake(t, m, c.n, c.want)
		b.Take(c.n)
		wantAs(t, fmt.Sprintf("Take(%d) over %d to %d", c.n, c.from, c.to), m, b)
	}
}

func TestP9_5_LowestOfHoles(t *testing.T) {
	for _, pages := range smallSizes() {
		for _, step := range []int{2, 3, 7, 63, 64, 65} {
			m, b := mapOf(t, pages, upTo(2, pages-1)...)
			for id := pages - 1; id >= 2; id -= step {
				wantClear(t, m, id, nil)
				b.Clear(id)
			}
			for n := 0; len(b.free()) >= n; n++ {
				want, _ := b.Take(n)
				wantTake(t, m, n, want)
				wantAs(t, fmt.Sprintf("Take(%d) of each %dth", n, step), m, b)
			}
		}
	}
}

func TestP9_5_NothingBehindTheLastPage(t *testing.T) {
	for _, pages := range allSizes() {
		m := newMap(t, pages)
		l, err := m.Take(pages - 2)
		wantError(t, "Take of all", err, nil)
		if last := l[len(l)-1]; last != pages-1 {
			t.Errorf("of %d pages %d is given out last", pages, last)
		}
		for n := 1; n <= 65; n++ {
			wantNotTaken(t, m, n, api.ErrFull)
		}
		wantFree(t, m, 0)
		for _, id := range strangers(pages) {
			wantUsed(t, m, id, false)
		}
	}
}

// ---- P9.6 ----

func TestP9_6_CopySaysTheSame(t *testing.T) {
	for _, pages := range append(smallSizes(), maxPages) {
		for _, taken := range [][]int{nil, {2}, {pages - 1}, upTo(2, pages/2), upTo(2, pages-1)} {
			m, b := mapOf(t, pages, taken...)
			wantAs(t, "a copy", m.Copy(), b)
			wantAs(t, "what was copied", m, b)
			wantAs(t, "a copy of a copy", m.Copy().Copy(), b)
		}
	}
}

// wantApart: a change of the one of two maps is not seen in the other.
func wantApart(t *testing.T, what string, changed *free.Map, cb *book, other *free.Map, ob *book) {
	t.Helper()
	for id := 2; id < len(cb.taken); id++ {
		wantMark(t, changed, id, cb.Mark(id))
		wantAs(t, what+" and Mark of the other", other, ob)
		wantAs(t, what+" and Mark", changed, cb)
		wantClear(t, changed, id, cb.Clear(id))
		wantAs(t, what+" and Clear of the other", other, ob)
		wantAs(t, what+" and Clear", changed, cb)
	}
	n := len(cb.free())
	want, _ := cb.Take(n)
	wantTake(t, changed, n, want)
	wantAs(t, what+" and Take of the other", other, ob)
	wantAs(t, what+" and Take", changed, cb)
}

func TestP9_6_NeitherHearsOfTheOther(t *testing.T) {
	for _, pages := range smallSizes()[:19] {
		m, b := mapOf(t, pages, upTo(3, pages/2)...)
		wantApart(t, "the first changes", m, b.Copy(), m.Copy(), b)
		m, b = mapOf(t, pages, upTo(3, pages/2)...)
		wantApart(t, "the copy changes", m.Copy(), b.Copy(), m, b)
		first := m.Copy()
		wantApart(t, "a copy of a copy changes", first.Copy(), b.Copy(), first, b)
		wantApart(t, "one of two copies changes", m.Copy(), b.Copy(), first, b)
		wantAs(t, "what was copied", m, b)
	}
}

// ---- P9.7 ----

// numberOf is a random number, most often that of a page.
func numberOf(r *rand.Rand, pages int) int {
	if r.Intn(20) == 0 {
		l := append(strangers(pages), 0, 1)
		return l[r.Intn(len(l))]
	}
	return r.Intn(pages+4) - 2
}

// amountOf is a random number of pages to take, most often few.
func amountOf(r *rand.Rand, left int) int {
	switch r.Intn(12) {
	case 0:
		return left + 1 + r.Intn(3)
	case 1:
		return left
	case 2:
		return []int{-1, math.MinInt, math.MaxInt, maxPages}[r.Intn(4)]
	case 3:
		return r.Intn(left + 1)
	}
	return r.Intn(4)
}

// step does one random call to both, and tells where they differ.
func step(t *testing.T, r *rand.Rand, m *free.Map, b *book) (*free.Map, *book) {
	t.Helper()
	switch r.Intn(10) {
	case 0, 1, 2:
		id := numberOf(r, len(b.taken))
		wantMark(t, m, id, b.Mark(id))
	case 3, 4, 5, 6:
		id := numberOf(r, len(b.taken))
		wantClear(t, m, id, b.Clear(id))
	case 7, 8:
		n := amountOf(r, len(b.free()))
		if want, err := b.Take(n); err != nil {
			wantNotTaken(t, m, n, err)
		} else {
			wantTake(t, m, n, want)
		}
	case 9:
		if r.Intn(10) == 0 {
			return m.Copy(), b
		}
	}
	return m, b
}

func TestP9_7_ABookBesideTheMap(t *testing.T) {
	for seed := range int64(300) {
		r := rand.New(rand.NewSource(seed))
		pages := minPages + r.Intn(200)
		m, b := mapOf(t, pages)
		for range 400 {
			m, b = step(t, r, m, b)
			wantAs(t, "a long run", m, b)
		}
	}
}

func TestP9_7_ABookBesideAGreatMap(t *testing.T) {
	r := rand.New(rand.NewSource(7))
	pages := 100000
	m, b := mapOf(t, pages)
	for range 300 {
		m, b = step(t, r, m, b)
		wantFree(t, m, len(b.free()))
	}
	wantAs(t, "at the end", m, b)
}

// What is given out was free, rises, and leaves no free page below its last.
func TestP9_7_WhatTakeGivesOut(t *testing.T) {
	r := rand.New(rand.NewSource(9))
	for range 2000 {
		pages := minPages + r.Intn(300)
		m := newMap(t, pages)
		for range r.Intn(pages) {
			m.Mark(r.Intn(pages))
		}
		was := m.Copy()
		n := r.Intn(m.Free() + 1)
		l, err := m.Take(n)
		if err != nil || len(l) != n {
			t.Fatalf("Take(%d): %d pages, %v", n, len(l), err)
		}
		for i, id := range l {
			if i > 0 && l[i-1] >= id {
				t.Fatalf("Take(%d): %s", n, short(l))
			}
			wantUsed(t, was, id, false)
			wantUsed(t, m, id, true)
		}
		for id := 0; n > 0 && id < l[n-1]; id++ {
			wantUsed(t, m, id, true)
		}
	}
}

// marked is the map of these pages by Mark, in the order of the numbers.
func marked(t *testing.T, pages int, taken []int) *free.Map {
	t.Helper()
	m, _ := mapOf(t, pages, taken...)
	return m
}

// cleared is the same map, by way of one that was full.
func cleared(t *testing.T, pages int, taken []int) *free.Map {
	t.Helper()
	m := newMap(t, pages)
	wantTake(t, m, pages-2, upTo(2, pages-1))
	for id := pages - 1; id >= 2; id-- {
		if !slices.Contains(taken, id) {
			wantClear(t, m, id, nil)
		}
	}
	return m
}

// wandered is the same map, behind calls of all kinds, many of them refused.
func wandered(t *testing.T, r *rand.Rand, pages int, taken []int) *free.Map {
	t.Helper()
	m, b := mapOf(t, pages)
	for range 100 {
		m, b = step(t, r, m, b)
	}
	for _, id := range r.Perm(pages) {
		if slices.Contains(taken, id) {
			m.Mark(id)
		} else {
			m.Clear(id)
		}
	}
	return m
}

func TestP9_7_HoweverTheyCameToIt(t *testing.T) {
	r := rand.New(rand.NewSource(11))
	for range 300 {
		pages := minPages + r.Intn(200)
		var taken []int
		for _, i := range r.Perm(pages - 2)[:r.Intn(pages-1)] {
			taken = append(taken, i+2)
		}
		b := newBook(pages)
		for _, id := range taken {
			b.Mark(id)
		}
		maps := []*free.Map{marked(t, pages, taken), cleared(t, pages, taken), wandered(t, r, pages, taken)}
		maps = append(maps, maps[2].Copy())
		for _, m := range maps {
			wantAs(t, "a map made in another way", m, b)
		}
		for len(b.free()) > 0 {
			n := 1 + r.Intn(len(b.free()))
			want, _ := b.Take(n)
			for _, m := range maps {
				wantTake(t, m, n, want)
			}
		}
		for _, m := range maps {
			wantNotTaken(t, m, 1, api.ErrFull)
		}
	}
}

// ---- P9.8 ----

// spoil writes over a list, its spare room too, and makes it grow.
func spoil(l []int) {
	for i := range l[:cap(l)] {
		l[:cap(l)][i] = -7
	}
	l = append(l, -8, -9)
	clear(l)
}

func TestP9_8_ListsAreNewMemory(t *testing.T) {
	for _, pages := range smallSizes() {
		for _, n := range []int{0, 1, 2, 3, 5, 8, 9, 60, 64, 65, 100} {
			m, b := mapOf(t, pages)
			var lists, wants [][]int
			for range 4 {
				l, err := m.Take(n)
				want, wantErr := b.Take(n)
				wantError(t, "Take", err, wantErr)
				lists, wants = append(lists, l), append(wants, want)
			}
			for i := range lists {
				spoil(lists[i])
				for j := i + 1; j < len(lists); j++ {
					if !slices.Equal(lists[j], wants[j]) {
						t.Fatalf("Take(%d): list %d reaches into list %d", n, i, j)
					}
				}
				wantAs(t, "behind a list that is spoilt", m, b)
			}
			want, _ := b.Take(len(b.free()))
			wantTake(t, m, len(want), want)
			wantAs(t, "at the end", m, b)
		}
	}
}

func TestP9_8_CopiesListsApart(t *testing.T) {
	m, b := mapOf(t, 200)
	c := m.Copy()
	l, _ := m.Take(70)
	k, _ := c.Take(70)
	spoil(l)
	if !slices.Equal(k, upTo(2, 71)) {
		t.Error("a list reaches into that of a copy")
	}
	b.Take(70)
	wantAs(t, "the map", m, b)
	wantAs(t, "the copy", c, b)
}

func TestP9_8_LookingChangesNothing(t *testing.T) {
	for _, pages := range smallSizes() {
		m, b := mapOf(t, pages, upTo(3, pages/2)...)
		for range 3 {
			m.Size()
			m.Free()
			m.Copy()
			for _, id := range append(strangers(pages), upTo(0, pages-1)...) {
				m.Used(id)
			}
			wantAs(t, "behind looking", m, b)
		}
		want, _ := b.Take(len(b.free()))
		wantTake(t, m, len(want), want)
	}
}

func TestP9_8_SameCallsSameAnswers(t *testing.T) {
	run := func() string {
		r := rand.New(rand.NewSource(13))
		m := newMap(t, 150)
		told := ""
		for range 3000 {
			id := numberOf(r, 150)
			l, err := m.Take(amountOf(r, m.Free()))
			told += fmt.Sprint(m.Mark(id), m.Clear(numberOf(r, 150)), l, err, m.Free())
			m.Clear(numberOf(r, 150))
		}
		return told
	}
	if run() != run() {
		t.Error("the same calls are answered in two ways")
	}
}

// least is the shortest time of some tries: what else the machine does counts least in it.
func least(try func()) time.Duration {
	best := time.Duration(math.MaxInt64)
	for range 40 {
		start := time.Now()
		try()
		best = min(best, time.Since(start))
	}
	return best
}

// To go through the words costs some hundredth of going through the pages.
func TestP9_8_Takes64PagesAtATime(t *testing.T) {
	words := slices.Repeat([]uint64{math.MaxUint64}, maxPages/64)
	words[len(words)-1] >>= 1
	place := 0
	once := least(func() {
		for range 10 {
			place = slices.IndexFunc(words, func(w uint64) bool { return bits.TrailingZeros64(^w) < 64 })
		}
	})
	if place != len(words)-1 {
		t.Fatal(place)
	}
	m := newMap(t, maxPages)
	wantTake(t, m, maxPages-2, upTo(2, maxPages-1))
	take := least(func() {
		for range 10 {
			wantClear(t, m, maxPages-1, nil)
			wantTake(t, m, 1, []int{maxPages - 1})
		}
	})
	if take > 16*once {
		t.Errorf("to take the last page costs %v, to go through the words once %v", take/10, once/10)
	}
}

// So a page is not sought from the front for each that is taken.
func TestP9_8_TakesAllInOneGo(t *testing.T) {
	m := newMap(t, maxPages)
	start := time.Now()
	want := upTo(2, maxPages-1)
	once := time.Since(start)
	start = time.Now()
	got, err := m.Take(maxPages - 2)
	take := time.Since(start)
	if err != nil || !slices.Equal(got, want) {
		t.Fatalf("Take of all: %s, %v", short(got), err)
	}
	if take > 50*once+time.Second {
		t.Errorf("to take all pages costs %v, to list them %v", take, once)
	}
}

// A map is bits: the greatest one has 131072 bytes of them.
func TestP9_8_AMapIsBits(t *testing.T) {
	allocated := func() uint64 {
		var s runtime.MemStats
		runtime.ReadMemStats(&s)
		return s.TotalAlloc
	}
	before := allocated()
	for range 50 {
		m := newMap(t, maxPages)
		m.Copy().Free()
		m.Used(maxPages - 1)
		wantMark(t, m, maxPages-1, nil)
	}
	if spent := allocated() - before; spent > 100*200000 {
		t.Errorf("a hundred great maps took %d bytes", spent)
	}
}

// ---- examples ----

func TestExamples(t *testing.T) {
	for _, pages := range []int{3, 1048577} {
		if m, err := free.New(pages); m != nil || err != api.ErrArg {
			t.Errorf("New(%d): %v", pages, err)
		}
	}
	m := newMap(t, 8)
	if m.Size() != 8 {
		t.Errorf("Size: %d", m.Size())
	}
	wantFree(t, m, 6)
	for _, id := range []int{0, 1} {
		wantUsed(t, m, id, true)
	}
	for _, id := range []int{2, 8, -1} {
		wantUsed(t, m, id, false)
	}
	wantMark(t, m, 3, nil)
	wantMark(t, m, 3, api.ErrTwice)
	wantMark(t, m, 1, api.ErrArg)
	wantMark(t, m, 8, api.ErrArg)
	wantTake(t, m, 0, nil)
	wantNotTaken(t, m, -1, api.ErrArg)
	wantNotTaken(t, m, 6, api.ErrFull)
	wantTake(t, m, 2, []int{2, 4})
	wantFree(t, m, 3)
	wantClear(t, m, 3, nil)
	wantClear(t, m, 3, api.ErrLost)
	wantClear(t, m, 0, api.ErrArg)
	wantTake(t, m, 4, []int{3, 5, 6, 7})
	wantFree(t, m, 0)
	wantNotTaken(t, m, 1, api.ErrFull)
	c := m.Copy()
	wantClear(t, c, 7, nil)
	wantFree(t, m, 0)
	wantFree(t, c, 1)
}
