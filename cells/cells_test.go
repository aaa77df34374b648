package cells_test

import (
	"encoding/binary"
	"fmt"
	"math"
	"math/rand"
	"slices"
	"strings"
	"testing"

	"copse/api"
	"copse/cells"
)

const (
	bodyLen   = 4072
	mostCells = 2036
)

func zeros(n int) string { return strings.Repeat("\x00", n) }

// filled is the text with zeros up to the end of a body.
func filled(text string) string { return text + zeros(bodyLen-len(text)) }

// plainBody is the body of some cells, as the chapter's words make it, by the library.
func plainBody(l []string) string {
	var slots []byte
	all := strings.Join(l, "")
	end := 2 * len(l)
	for _, cell := range l {
		end += len(cell)
		slots = binary.BigEndian.AppendUint16(slots, uint16(end))
	}
	return filled(string(slots) + all)
}

// plainRead looks for the count cells whose body this is: it takes what the slots would say, and sees whether that list's body is the same.
func plainRead(count int, body string) ([]string, bool) {
	if count < 0 || count > mostCells || len(body) != bodyLen {
		return nil, false
	}
	var l []string
	from := 2 * count
	for i := range count {
		to := int(binary.BigEndian.Uint16([]byte(body[2*i:])))
		if to < from || to > bodyLen {
			return nil, false
		}
		l = append(l, body[from:to])
		from = to
	}
	return l, plainBody(l) == body
}

// randomCells is a list that a body can hold; some of its cells are empty, some end with zeros.
func randomCells(r *rand.Rand) []string {
	room := r.Intn(bodyLen + 1)
	if r.Intn(4) == 0 {
		room = bodyLen
	}
	most := 1 << r.Intn(12)
	var l []string
	for room >= 2 && len(l) < r.Intn(300)+1 {
		n := min(r.Intn(most), room-2)
		if r.Intn(5) == 0 {
			n = 0
		}
		cell := make([]byte, n)
		r.Read(cell)
		clear(cell[n-r.Intn(n/2+1):])
		l = append(l, string(cell))
		room -= 2 + n
	}
	return l
}

func wantSize(t *testing.T, what string, l []string, want int) {
	t.Helper()
	if got := cells.Size(l); got != want {
		t.Errorf("Size of %s: %d, want %d", what, got, want)
	}
}

func wantLaid(t *testing.T, what string, l []string, want string) {
	t.Helper()
	got, err := cells.Lay(l)
	if err != nil || len(got) != bodyLen {
		t.Fatalf("Lay of %s: %d bytes, %v, want a body", what, len(got), err)
	}
	for i := range got {
		if got[i] != want[i] {
			t.Fatalf("Lay of %s: byte %d is %d, want %d", what, i, got[i], want[i])
		}
	}
}

func wantNotLaid(t *testing.T, what string, l []string) {
	t.Helper()
	if got, err := cells.Lay(l); got != "" || err != api.ErrMany {
		t.Errorf("Lay of %s: %d bytes, %v, want none, ErrMany", what, len(got), err)
	}
}

func wantRead(t *testing.T, what string, count int, body string, want []string) {
	t.Helper()
	got, err := cells.Read(count, body)
	if err != nil || len(want) != count || !slices.Equal(got, want) {
		t.Errorf("Read of %s: %.99q, %v, want %.99q", what, got, err, want)
	}
}

func wantNotRead(t *testing.T, what string, count int, body string) {
	t.Helper()
	if got, err := cells.Read(count, body); len(got) != 0 || err != api.ErrText {
		t.Errorf("Read of %s: %d cells, %v, want none, ErrText", what, len(got), err)
	}
}

// wantAsPlain holds Read against the chapter's words.
func wantAsPlain(t *testing.T, what string, count int, body string) {
	t.Helper()
	if want, ok := plainRead(count, body); ok {
		wantRead(t, what, count, body, want)
	} else {
		wantNotRead(t, what, count, body)
	}
}

// lists are ordinary ones and those at the edges, that a body can hold.
func lists() [][]string {
	x := strings.Repeat("x", bodyLen)
	return [][]string{
		nil, {}, {""}, {"", ""}, {"a"}, {"ab", "", "c"}, {"\x00"}, {"\x00\x00", "\x00"}, {"a\x00", "b\x00\x00"}, {"a", "\x00\x00\x00"},
		{"", "", "end"}, {"end", "", ""}, {"\xff\xfe", "\x00\xff"}, {x[:250]}, {x[:253], "b"}, {x[:254]}, {x[:255], "c"}, {x[:510], "d", ""},
		{x[:4070]}, {x[:4069]}, {x[:4068], ""}, {"", x[:4068]}, {x[:2034], x[:2034]}, {zeros(4070)}, {zeros(4069)}, {zeros(2000), zeros(2068)},
		make([]string, 2036), make([]string, 2035), append(make([]string, 2034), "ab"), append(make([]string, 2033), "ab", ""),
		slices.Repeat([]string{"z"}, 1357), slices.Repeat([]string{"ab"}, 1018), slices.Repeat([]string{"\x00\x00"}, 1018),
	}
}

// tooLong are lists that no body can hold.
func tooLong() [][]string {
	x := strings.Repeat("x", 70000)
	return [][]string{
		{x[:4071]}, {zeros(4071)}, {x[:4070], ""}, {"", x[:4070]}, {x[:4069], ""}, {x[:2034], x[:2035]}, {x[:4072]}, {x[:8000]},
		make([]string, 2037), make([]string, 5000), append(make([]string, 2035), "abc"), slices.Repeat([]string{"z"}, 1358),
		{x[:65536]}, {x[:65534]}, {"a", x[:65535]}, {x}, make([]string, 32768), make([]string, 40000),
	}
}

func TestP6_1_Size(t *testing.T) {
	for _, c := range []struct {
		l    []string
		want int
	}{
		{nil, 0}, {[]string{}, 0}, {[]string{""}, 2}, {[]string{"a"}, 3}, {[]string{"ab", ""}, 6}, {[]string{"\x00"}, 3}, {[]string{"ä"}, 4},
		{[]string{strings.Repeat("x", 4070)}, 4072}, {[]string{strings.Repeat("x", 4071)}, 4073}, {make([]string, 2036), 4072}, {make([]string, 2037), 4074},
		{make([]string, 100000), 200000}, {slices.Repeat([]string{strings.Repeat("y", 1<<20)}, 4096), 4096 * (1<<20 + 2)},
	} {
		wantSize(t, fmt.Sprint(len(c.l), " cells"), c.l, c.want)
	}
	r := rand.New(rand.NewSource(61))
	for range 300 {
		l := randomCells(r)
		wantSize(t, "a random list", l, 2*len(l)+len(strings.Join(l, "")))
	}
}

func TestP6_2_EveryByte(t *testing.T) {
	for i, l := range lists() {
		wantLaid(t, fmt.Sprintf("list %d", i), l, plainBody(l))
	}
	r := rand.New(rand.NewSource(62))
	for range 500 {
		l := randomCells(r)
		wantLaid(t, fmt.Sprintf("%.99q", l), l, plainBody(l))
	}
}

func TestP6_2_SlotsHigherByteFirst(t *testing.T) {
	x := strings.Repeat("x", 600)
	wantLaid(t, "three cells", []string{x[:252], x[:1], x[:511]}, filled("\x01\x02\x01\x03\x03\x02"+x[:252]+x[:1]+x[:511]))
	wantLaid(t, "a cell up to the end", []string{zeros(4070)}, "\x0f\xe8"+zeros(4070))
}

func TestP6_2_TooLong(t *testing.T) {
	for i, l := range tooLong() {
		wantNotLaid(t, fmt.Sprintf("list %d", i), l)
	}
	x := strings.Repeat("x", bodyLen)
	for n := range 60 {
		l := slices.Repeat([]string{"ab"}, n)
		room := bodyLen - 4*n - 2
		fits, not := append(slices.Clone(l), x[:room]), append(slices.Clone(l), x[:room+1])
		wantSize(t, "a list that fits just", fits, 4072)
		wantLaid(t, "a list that fits just", fits, plainBody(fits))
		wantSize(t, "a list of one byte more", not, 4073)
		wantNotLaid(t, "a list of one byte more", not)
	}
}

func TestP6_3_Cells(t *testing.T) {
	for i, l := range lists() {
		wantRead(t, fmt.Sprintf("list %d", i), len(l), plainBody(l), l)
	}
	r := rand.New(rand.NewSource(63))
	for range 500 {
		l := randomCells(r)
		wantRead(t, fmt.Sprintf("%.99q", l), len(l), plainBody(l), l)
	}
}

func TestP6_3_OtherCounts(t *testing.T) {
	far := []int{-1, -2, -3, math.MinInt, math.MinInt + 1, -1 << 62, -1 << 32, 2037, 2038, 4072, 4073, 32768, 65536, 1<<32 + 3, 1 << 62, 1<<63 - 1, 1<<62 + 3, -1<<63 + 3}
	for i, l := range lists() {
		body := plainBody(l)
		for _, count := range far {
			wantNotRead(t, fmt.Sprintf("list %d by the count %d", i, count), count, body)
		}
		for _, count := range []int{len(l) - 1, len(l) + 1, 0, 1, 2, 3, 4, 2035, 2036} {
			wantAsPlain(t, fmt.Sprintf("list %d by the count %d", i, count), count, body)
		}
	}
	body := plainBody([]string{"ab", "", "c"})
	for _, count := range []int{2, 4, 0, 1, 5} {
		wantNotRead(t, fmt.Sprintf("three cells by the count %d", count), count, body)
	}
	wantRead(t, "no cells", 0, zeros(bodyLen), nil)
	for count := 1; count <= 2037; count++ {
		wantNotRead(t, fmt.Sprintf("zeros by the count %d", count), count, zeros(bodyLen))
	}
}

func TestP6_3_OtherLengths(t *testing.T) {
	for i, l := range lists() {
		body := plainBody(l)
		for _, other := range []string{"", body[:1], body[:2*len(l)], body[:bodyLen/2], body[:bodyLen-1], body[1:], body + "\x00", body + "x", "\x00" + body, body + body, strings.TrimRight(body, "\x00")} {
			if len(other) != bodyLen {
				wantNotRead(t, fmt.Sprintf("list %d in %d bytes", i, len(other)), len(l), other)
			}
		}
	}
	for _, count := range []int{-1, 0, 1, 2, 2036, 2037, 1 << 62} {
		for _, n := range []int{0, 1, 2, 3, 511, 4071, 4073, 4096, 1 << 20} {
			wantNotRead(t, fmt.Sprintf("%d zeros by the count %d", n, count), count, zeros(n))
		}
	}
}

func TestP6_3_SlotsBelow(t *testing.T) {
	for _, c := range []struct {
		count int
		head  string
	}{
		{1, "\x00\x00"}, {1, "\x00\x01"}, {2, "\x00\x03\x00\x04"}, {2, "\x00\x04\x00\x03"}, {2, "\x00\x00\x00\x04"}, {2, "\x00\x06\x00\x05ab"}, {2, "\x01\x00\x00\xff"},
		{3, "\x00\x05\x00\x06\x00\x06"}, {3, "\x00\x08\x00\x07\x00\x09abc"}, {3, "\x00\x08\x00\x09\x00\x08abc"}, {3, "\x00\x08\x00\x08\x00\x00ab"}, {2, "\x0f\xe8\x0f\xe7"},
	} {
		wantNotRead(t, fmt.Sprintf("%d cells of %q", c.count, c.head), c.count, filled(c.head))
	}
	wantRead(t, "slots that are just high enough", 2, filled("\x00\x04\x00\x04"), []string{"", ""})
	wantRead(t, "slots that are just high enough", 2, filled("\x00\x06\x00\x06ab"), []string{"ab", ""})
}

func TestP6_3_SlotsAbove(t *testing.T) {
	for _, c := range []struct {
		count int
		head  string
	}{
		{1, "\x0f\xe9"}, {1, "\x10\x00"}, {1, "\xff\xff"}, {1, "\x80\x02"}, {2, "\x0f\xe8\x0f\xe9"}, {2, "\x0f\xe9\x0f\xe9"}, {2, "\x0f\xe9\x00\x04"}, {2, "\x00\x04\xff\xff"}, {3, "\x00\x06\xff\xff\x00\x06"},
	} {
		wantNotRead(t, fmt.Sprintf("%d cells of %q", c.count, c.head), c.count, filled(c.head))
	}
	wantRead(t, "a cell up to the end", 1, filled("\x0f\xe8"), []string{zeros(4070)})
	wantRead(t, "an empty cell at the end", 2, filled("\x0f\xe8\x0f\xe8"), []string{zeros(4068), ""})
}

func TestP6_3_BytesBehind(t *testing.T) {
	l := []string{"ab", "", "c"}
	body := []byte(plainBody(l))
	for place := cells.Size(l); place < bodyLen; place++ {
		for _, b := range []byte{1, ' ', 0x80, 0xff} {
			body[place] = b
			wantNotRead(t, fmt.Sprintf("a body with the byte %d at %d", b, place), 3, string(body))
		}
		body[place] = 0
	}
	wantNotRead(t, "no cells, and a byte", 0, filled("\x01"))
	wantNotRead(t, "no cells, and a byte at the end", 0, zeros(bodyLen-1)+"0")
}

// Every fault has the same answer, so that several have it too.
func TestP6_3_SeveralFaults(t *testing.T) {
	for _, c := range []struct {
		count int
		body  string
	}{
		{-1, ""}, {-1, zeros(4073)}, {1 << 62, "x"}, {2037, zeros(4071)}, {1, "\x00\x01" + zeros(4069) + "x"}, {1, "\x00"}, {1, "\x0f\xe9" + zeros(4071)}, {2, filled("\x0f\xe9\x00\x01") + "x"}, {2, filled("\xff\xff\x00\x00xyz")}, {0, "x" + zeros(4072)},
	} {
		wantNotRead(t, fmt.Sprintf("%d bytes by the count %d", len(c.body), c.count), c.count, c.body)
	}
}

// A body has one list for each count: another list of as many cells has another body.
func TestP6_3_OneList(t *testing.T) {
	var small []string
	for _, n := range []int{0, 1, 2} {
		for bits := range 1 << (2 * n) {
			cell := make([]byte, n)
			for i := range cell {
				cell[i] = byte(bits >> (2 * i) & 3)
			}
			small = append(small, string(cell))
		}
	}
	seen := map[string][]string{}
	for _, a := range small {
		for _, b := range small {
			l := []string{a, b}
			body, err := cells.Lay(l)
			if err != nil || seen[body] != nil {
				t.Fatalf("%q and %q have one body, %v", l, seen[body], err)
			}
			seen[body] = l
		}
	}
	for body, l := range seen {
		wantRead(t, "a small list", 2, body, l)
	}
}

func TestP6_4_ReadUndoesLay(t *testing.T) {
	r := rand.New(rand.NewSource(64))
	for range 1000 {
		l := randomCells(r)
		body, err := cells.Lay(l)
		if err != nil {
			t.Fatal(err)
		}
		wantRead(t, "what was laid", len(l), body, l)
	}
}

func TestP6_4_LayUndoesRead(t *testing.T) {
	r := rand.New(rand.NewSource(65))
	read := 0
	for range 3000 {
		count := r.Intn(4)
		body := []byte(zeros(bodyLen))
		for i := range count {
			binary.BigEndian.PutUint16(body[2*i:], uint16(2*count+r.Intn(4)))
		}
		for i := range r.Intn(5) {
			body[2*count+i] = byte(r.Intn(3))
		}
		wantAsPlain(t, fmt.Sprintf("%d cells of %v", count, body[:12]), count, string(body))
		if l, err := cells.Read(count, string(body)); err == nil {
			read++
			wantLaid(t, "what was read", l, string(body))
		}
	}
	if read < 100 || read > 2900 {
		t.Errorf("of 3000 bodies %d were read: too much alike", read)
	}
}

func TestP6_4_OneByteChanged(t *testing.T) {
	x := strings.Repeat("x", bodyLen)
	for i, l := range [][]string{nil, {""}, {"ab", "", "c"}, {"a\x00", "b"}, {x[:4070]}, {x[:300], x[:700], "", x[:255]}, make([]string, 2036)} {
		body := []byte(plainBody(l))
		for place := range body {
			was := body[place]
			for _, b := range []byte{was + 1, was - 1, was ^ 0x80, 0, 'x'} {
				body[place] = b
				what := fmt.Sprintf("list %d with the byte %d at %d", i, b, place)
				wantAsPlain(t, what, len(l), string(body))
				got, err := cells.Read(len(l), string(body))
				if b != was && err == nil && slices.Equal(got, l) {
					t.Errorf("%s is read as the same list", what)
				}
			}
			body[place] = was
		}
	}
}

// distance is that of two sums.
func distance(a, b int) int { return max(a-b, b-a) }

func sumOf(sizes []int) int {
	total := 0
	for _, n := range sizes {
		total += n
	}
	return total
}

func cutGap(sizes []int, i int) int { return distance(sumOf(sizes[:i]), sumOf(sizes[i:])) }

func pivotGap(sizes []int, i int) int { return distance(sumOf(sizes[:i]), sumOf(sizes[i+1:])) }

// plainPlace is the least place from 1 to last whose gap is the least, found by trying all.
func plainPlace(sizes []int, last int, gap func([]int, int) int) int {
	best := 1
	for i := 1; i <= last; i++ {
		if gap(sizes, i) < gap(sizes, best) {
			best = i
		}
	}
	return best
}

func wantCut(t *testing.T, sizes []int, want int, wantErr error) {
	t.Helper()
	if got, err := cells.Cut(sizes); got != want || err != wantErr {
		t.Errorf("Cut(%d sizes: %.99v): %d, %v, want %d, %v", len(sizes), sizes, got, err, want, wantErr)
	}
}

func wantPivot(t *testing.T, sizes []int, want int, wantErr error) {
	t.Helper()
	if got, err := cells.Pivot(sizes); got != want || err != wantErr {
		t.Errorf("Pivot(%d sizes: %.99v): %d, %v, want %d, %v", len(sizes), sizes, got, err, want, wantErr)
	}
}

// sizeLists calls f with every list of 1 to 6 small sizes, and with random ones, some at the edges.
func sizeLists(f func(sizes []int)) {
	for n := 1; n <= 6; n++ {
		sizes := slices.Repeat([]int{1}, n)
		for i := 0; i < n; {
			f(slices.Clone(sizes))
			for i = 0; i < n && sizes[i] == 4; i++ {
				sizes[i] = 1
			}
			if i < n {
				sizes[i]++
			}
		}
	}
	r := rand.New(rand.NewSource(66))
	for range 1000 {
		most := []int{2, 9, 300, 4072}[r.Intn(4)]
		sizes := make([]int, 1+r.Intn(60))
		for i := range sizes {
			sizes[i] = 1 + r.Intn(most)
			if r.Intn(9) == 0 {
				sizes[i] = []int{1, 4072}[r.Intn(2)]
			}
		}
		f(sizes)
	}
}

// noSizes are numbers that are no sizes.
func noSizes() []int {
	return []int{0, -1, -5, 4073, 4074, 8144, 65536, 1 << 32, 1<<32 + 1, -1<<32 + 1, math.MaxInt, math.MinInt, math.MinInt + 1}
}

func TestP6_5_Cut(t *testing.T) {
	sizeLists(func(sizes []int) {
		if len(sizes) < 2 {
			wantCut(t, sizes, 0, api.ErrShort)
			return
		}
		wantCut(t, sizes, plainPlace(sizes, len(sizes)-1, cutGap), nil)
	})
}

func TestP6_5_LeastOfSeveral(t *testing.T) {
	for _, c := range []struct {
		sizes []int
		want  int
	}{
		{[]int{2, 2, 2}, 1}, {[]int{1, 2, 1}, 1}, {[]int{1, 4072, 1}, 1}, {[]int{3, 3, 3, 3, 3}, 2}, {[]int{1, 1, 9, 1, 1}, 2}, {[]int{4072, 4072, 4072}, 1}, {[]int{5, 1, 2, 1, 5}, 2},
	} {
		wantCut(t, c.sizes, c.want, nil)
	}
}

func TestP6_5_Edges(t *testing.T) {
	wantCut(t, []int{1, 1}, 1, nil)
	wantCut(t, []int{4072, 4072}, 1, nil)
	wantCut(t, []int{1, 4072}, 1, nil)
	wantCut(t, []int{4072, 1}, 1, nil)
	wantCut(t, []int{4072, 1, 1, 1}, 1, nil)
	wantCut(t, []int{1, 1, 1, 4072}, 3, nil)
	wantCut(t, slices.Repeat([]int{4072}, 1<<20), 1<<19, nil)
	wantCut(t, slices.Repeat([]int{4072}, 1<<20+1), 1<<19, nil)
	wantCut(t, append(slices.Repeat([]int{1}, 4072), 4072), 4072, nil)
	wantCut(t, append([]int{4072}, slices.Repeat([]int{1}, 4073)...), 1, nil)
	wantCut(t, append([]int{4072}, slices.Repeat([]int{1}, 4074)...), 2, nil)
}

func TestP6_5_Refusals(t *testing.T) {
	wantCut(t, nil, 0, api.ErrShort)
	wantCut(t, []int{}, 0, api.ErrShort)
	wantCut(t, []int{5}, 0, api.ErrShort)
	for _, bad := range noSizes() {
		wantCut(t, []int{bad}, 0, api.ErrShort)
		wantCut(t, []int{bad, bad}, 0, api.ErrArg)
		for n := 2; n <= 5; n++ {
			for i := range n {
				sizes := slices.Repeat([]int{5}, n)
				sizes[i] = bad
				wantCut(t, sizes, 0, api.ErrArg)
			}
		}
	}
	wantCut(t, []int{math.MaxInt, math.MaxInt, 2}, 0, api.ErrArg)
	wantCut(t, []int{math.MinInt, math.MaxInt, 1}, 0, api.ErrArg)
}

func TestP6_6_Pivot(t *testing.T) {
	sizeLists(func(sizes []int) {
		if len(sizes) < 3 {
			wantPivot(t, sizes, 0, api.ErrShort)
			return
		}
		wantPivot(t, sizes, plainPlace(sizes, len(sizes)-2, pivotGap), nil)
	})
}

func TestP6_6_LeastOfSeveral(t *testing.T) {
	for _, c := range []struct {
		sizes []int
		want  int
	}{
		{[]int{1, 1, 1, 1}, 1}, {[]int{2, 2, 2, 2, 2, 2}, 2}, {[]int{1, 5, 5, 1}, 1}, {[]int{4072, 4072, 4072, 4072}, 1}, {[]int{3, 1, 1, 1, 1, 3}, 2}, {[]int{1, 9, 2, 2, 9, 1}, 2},
	} {
		wantPivot(t, c.sizes, c.want, nil)
	}
}

func TestP6_6_Edges(t *testing.T) {
	wantPivot(t, []int{1, 1, 1}, 1, nil)
	wantPivot(t, []int{4072, 4072, 4072}, 1, nil)
	wantPivot(t, []int{1, 4072, 1}, 1, nil)
	wantPivot(t, []int{4072, 1, 1}, 1, nil)
	wantPivot(t, []int{1, 1, 4072}, 1, nil)
	wantPivot(t, []int{1, 1, 1, 4072}, 2, nil)
	wantPivot(t, slices.Repeat([]int{4072}, 1<<20), 1<<19-1, nil)
	wantPivot(t, slices.Repeat([]int{4072}, 1<<20+1), 1<<19, nil)
	wantPivot(t, append(slices.Repeat([]int{1}, 4073), 4072), 4072, nil)
	wantPivot(t, append([]int{4072}, slices.Repeat([]int{1}, 4073)...), 1, nil)
}

func TestP6_6_Refusals(t *testing.T) {
	wantPivot(t, nil, 0, api.ErrShort)
	wantPivot(t, []int{}, 0, api.ErrShort)
	wantPivot(t, []int{5}, 0, api.ErrShort)
	wantPivot(t, []int{5, 5}, 0, api.ErrShort)
	for _, bad := range noSizes() {
		wantPivot(t, []int{bad}, 0, api.ErrShort)
		wantPivot(t, []int{bad, 5}, 0, api.ErrShort)
		wantPivot(t, []int{5, bad}, 0, api.ErrShort)
		wantPivot(t, []int{bad, bad, bad}, 0, api.ErrArg)
		for n := 3; n <= 6; n++ {
			for i := range n {
				sizes := slices.Repeat([]int{5}, n)
				sizes[i] = bad
				wantPivot(t, sizes, 0, api.ErrArg)
			}
		}
	}
	wantPivot(t, []int{math.MaxInt, math.MaxInt, 2, 1}, 0, api.ErrArg)
	wantPivot(t, []int{math.MinInt, math.MaxInt, 1, 1}, 0, api.ErrArg)
}

func TestP6_7_SumsApart(t *testing.T) {
	sizeLists(func(sizes []int) {
		greatest := slices.Max(sizes)
		if i, err := cells.Cut(sizes); err == nil && cutGap(sizes, i) > greatest {
			t.Errorf("Cut(%v) at %d: the sums differ by %d", sizes, i, cutGap(sizes, i))
		}
		if i, err := cells.Pivot(sizes); err == nil && pivotGap(sizes, i) > greatest {
			t.Errorf("Pivot(%v) at %d: the sums differ by %d", sizes, i, pivotGap(sizes, i))
		}
	})
}

// roomy is the list with spare room behind it, filled with spare.
func roomy[E any](l []E, spare E) []E {
	r := append(slices.Clone(l), spare, spare, spare)
	return r[:len(l)]
}

func TestP6_8_ListsHandedIn(t *testing.T) {
	for _, l := range append(lists(), tooLong()...) {
		handed := roomy(l, "spare")
		cells.Size(handed)
		cells.Lay(handed)
		if !slices.Equal(handed, l) || !slices.Equal(handed[len(l):len(l)+3], []string{"spare", "spare", "spare"}) {
			t.Errorf("a list of %d cells was changed", len(l))
		}
	}
	for _, l := range [][]int{nil, {1}, {5, 5}, {1, 1, 9}, {3, 1, 2, 2, 2}, {5, 0, 7}, {9, 4073, 8, 7}} {
		handed := roomy(l, 77)
		cells.Cut(handed)
		cells.Pivot(handed)
		if !slices.Equal(handed, l) || !slices.Equal(handed[len(l):len(l)+3], []int{77, 77, 77}) {
			t.Errorf("%v was changed: %v", l, handed[:len(l)+3])
		}
	}
}

func TestP6_8_NothingKept(t *testing.T) {
	l := []string{"ab", "", "c"}
	body, _ := cells.Lay(l)
	l[0] = "other"
	wantLaid(t, "three cells", []string{"ab", "", "c"}, body)
	wantLaid(t, "three other cells", l, plainBody(l))
	sizes := []int{1, 1, 9}
	wantCut(t, sizes, 2, nil)
	sizes[0] = 9
	wantCut(t, sizes, 1, nil)
	wantPivot(t, sizes, 1, nil)
}

func TestP6_8_AnswersNewMemory(t *testing.T) {
	l := []string{"ab", "", "c"}
	body := plainBody(l)
	first, _ := cells.Read(3, body)
	second, _ := cells.Read(3, body)
	for i := range first {
		first[i] = "changed"
	}
	_ = append(first, "more")
	_ = append(first[:1], "more")
	if !slices.Equal(second, l) {
		t.Errorf("another answer was changed: %q", second)
	}
	wantRead(t, "three cells", 3, body, l)
	none, _ := cells.Read(0, zeros(bodyLen))
	_ = append(none, "more")
	wantRead(t, "no cells", 0, zeros(bodyLen), nil)
}

// A Read of a count that is far too great must not ask for the memory of so many cells.
func TestP6_8_GreatCounts(t *testing.T) {
	for shift := range 63 {
		count := 1 << shift
		wantAsPlain(t, fmt.Sprintf("zeros by the count %d", count), count, zeros(bodyLen))
		wantAsPlain(t, fmt.Sprintf("zeros by the count %d", -count), -count, zeros(bodyLen))
	}
}

func TestExamples(t *testing.T) {
	wantSize(t, "none", nil, 0)
	wantSize(t, "an empty cell", []string{""}, 2)
	wantSize(t, "two cells", []string{"ab", ""}, 6)
	wantLaid(t, "none", nil, zeros(bodyLen))
	three := filled("\x00\x08\x00\x08\x00\x09abc")
	wantLaid(t, "three cells", []string{"ab", "", "c"}, three)
	x := strings.Repeat("x", 4071)
	wantLaid(t, "4070 bytes", []string{x[:4070]}, "\x0f\xe8"+x[:4070])
	wantNotLaid(t, "4071 bytes", []string{x})
	wantRead(t, "three cells", 3, three, []string{"ab", "", "c"})
	wantNotRead(t, "three cells as two", 2, three)
	wantRead(t, "zeros", 0, zeros(bodyLen), nil)
	wantNotRead(t, "zeros as one cell", 1, zeros(bodyLen))
	wantNotRead(t, "zeros as -1 cells", -1, zeros(bodyLen))
	wantRead(t, "an empty cell", 1, filled("\x00\x02"), []string{""})
	wantCut(t, []int{5, 5}, 1, nil)
	wantCut(t, []int{1, 1, 9}, 2, nil)
	wantCut(t, []int{9, 1, 1}, 1, nil)
	wantCut(t, []int{2, 2, 2}, 1, nil)
	wantCut(t, []int{5}, 0, api.ErrShort)
	wantCut(t, []int{5, 0}, 0, api.ErrArg)
	wantCut(t, []int{5, 4073}, 0, api.ErrArg)
	wantPivot(t, []int{5, 5, 5}, 1, nil)
	wantPivot(t, []int{1, 1, 1, 1}, 1, nil)
	wantPivot(t, []int{9, 1, 1, 1, 1}, 1, nil)
	wantPivot(t, []int{1, 1, 1, 9}, 2, nil)
	wantPivot(t, []int{3, 1, 2, 2, 2}, 2, nil)
	wantPivot(t, []int{5, 5}, 0, api.ErrShort)
}
