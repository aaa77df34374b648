package codec_test

import (
	"bytes"
	"hash/crc32"
	"math"
	"math/rand"
	"testing"

	"copse/api"
	"copse/codec"
)

// sumByBits is P1.2 to the letter, bit by bit: what the table must agree with.
func sumByBits(sum uint32, p []byte) uint32 {
	register := ^sum
	for _, b := range p {
		register ^= uint32(b)
		for range 8 {
			out := register & 1
			register >>= 1
			if out == 1 {
				register ^= 0x82F63B78
			}
		}
	}
	return ^register
}

func someBytes(r *rand.Rand, n int) []byte {
	p := make([]byte, n)
	r.Read(p)
	return p
}

// greatest is the greatest number of a width from 1 to 8.
func greatest(width int) uint64 {
	return math.MaxUint64 >> (64 - 8*width)
}

// numbersOf gives numbers that have their place in a width: the least, the greatest, every single bit, each byte by itself, and some others.
func numbersOf(r *rand.Rand, width int) []uint64 {
	list := []uint64{0, 1, greatest(width) - 1, greatest(width)}
	for bit := range 8 * width {
		list = append(list, 1<<bit)
	}
	for place := range width {
		list = append(list, 0xA5<<(8*place))
	}
	for range 200 {
		list = append(list, r.Uint64()&greatest(width))
	}
	return list
}

// byDivision is n in width bytes, made by division: another way than the shifts of Put.
func byDivision(n uint64, width int) []byte {
	p := make([]byte, width)
	for i := width - 1; i >= 0; i-- {
		p[i] = byte(n % 256)
		n /= 256
	}
	return p
}

func TestP1_1Examples(t *testing.T) {
	for _, c := range []struct {
		text string
		want uint32
	}{
		{"", 0},
		{"a", 0xC1D04330},
		{"123456789", 0xE3069283},
		{string(make([]byte, 32)), 0x8A9136AA},
	} {
		if got := codec.Crc([]byte(c.text)); got != c.want {
			t.Errorf("Crc(%q) = %#08x, want %#08x", c.text, got, c.want)
		}
	}
	if got := codec.Crc(nil); got != 0 {
		t.Errorf("Crc(nil) = %#08x, want 0", got)
	}
}

func TestP1_1EveryByteAndPairOfBytes(t *testing.T) {
	for a := range 256 {
		one := []byte{byte(a)}
		if got, want := codec.Crc(one), sumByBits(0, one); got != want {
			t.Fatalf("Crc(%x) = %#08x, want %#08x", one, got, want)
		}
		for b := range 256 {
			two := []byte{byte(a), byte(b)}
			if got, want := codec.Crc(two), sumByBits(0, two); got != want {
				t.Fatalf("Crc(%x) = %#08x, want %#08x", two, got, want)
			}
		}
	}
}

func TestP1_1EveryLength(t *testing.T) {
	r := rand.New(rand.NewSource(1))
	castagnoli := crc32.MakeTable(crc32.Castagnoli)
	for n := range 600 {
		p := someBytes(r, n)
		got := codec.Crc(p)
		if want := sumByBits(0, p); got != want {
			t.Fatalf("Crc(%x) = %#08x, want %#08x", p, got, want)
		}
		if want := crc32.Checksum(p, castagnoli); got != want {
			t.Fatalf("Crc(%x) = %#08x, want %#08x as the library says", p, got, want)
		}
	}
	long := someBytes(r, 1<<20)
	if got, want := codec.Crc(long), crc32.Checksum(long, castagnoli); got != want {
		t.Fatalf("Crc of 2^20 bytes = %#08x, want %#08x", got, want)
	}
}

func TestP1_2Example(t *testing.T) {
	got := codec.CrcMore(codec.Crc([]byte("1234")), []byte("56789"))
	if got != 0xE3069283 {
		t.Errorf("CrcMore(Crc(1234), 56789) = %#08x, want 0xE3069283", got)
	}
}

func TestP1_2NoBytesLeaveTheSum(t *testing.T) {
	sums := []uint32{0, 1, 0x7FFFFFFF, 0x80000000, 0x82F63B78, 0xFFFFFFFF}
	for bit := range 32 {
		sums = append(sums, 1<<bit, ^uint32(1<<bit))
	}
	for _, sum := range sums {
		for _, none := range [][]byte{nil, {}, []byte("abc")[3:]} {
			if got := codec.CrcMore(sum, none); got != sum {
				t.Errorf("CrcMore(%#08x, no bytes) = %#08x", sum, got)
			}
		}
	}
}

func TestP1_2AnyCut(t *testing.T) {
	r := rand.New(rand.NewSource(2))
	for n := range 130 {
		p := someBytes(r, n)
		want := sumByBits(0, p)
		if got := codec.CrcMore(0, p); got != want || codec.Crc(p) != want {
			t.Fatalf("CrcMore(0, %x) = %#08x, Crc = %#08x, want %#08x", p, got, codec.Crc(p), want)
		}
		for cut := range n + 1 {
			if got := codec.CrcMore(codec.Crc(p[:cut]), p[cut:]); got != want {
				t.Fatalf("%x cut at %d: %#08x, want %#08x", p, cut, got, want)
			}
		}
		sum := uint32(0)
		for _, b := range p {
			sum = codec.CrcMore(sum, []byte{b})
		}
		if sum != want {
			t.Fatalf("%x byte by byte: %#08x, want %#08x", p, sum, want)
		}
	}
}

func TestP1_2AnySum(t *testing.T) {
	r := rand.New(rand.NewSource(3))
	sums := []uint32{0, 1, 0xFFFFFFFF, 0x80000000}
	for range 500 {
		sums = append(sums, r.Uint32())
	}
	for _, sum := range sums {
		p := someBytes(r, 1+r.Intn(20))
		if got, want := codec.CrcMore(sum, p), sumByBits(sum, p); got != want {
			t.Fatalf("CrcMore(%#08x, %x) = %#08x, want %#08x", sum, p, got, want)
		}
	}
}

func TestP1_3Examples(t *testing.T) {
	for _, c := range []struct {
		n     uint64
		width int
		want  []byte
	}{
		{258, 2, []byte{1, 2}},
		{258, 4, []byte{0, 0, 1, 2}},
		{math.MaxUint64, 8, []byte{255, 255, 255, 255, 255, 255, 255, 255}},
	} {
		if got, err := codec.Put(c.n, c.width); err != nil || !bytes.Equal(got, c.want) {
			t.Errorf("Put(%d, %d) = %x, %v, want %x", c.n, c.width, got, err, c.want)
		}
	}
}

func TestP1_3EveryWidth(t *testing.T) {
	r := rand.New(rand.NewSource(4))
	for width := 1; width <= 8; width++ {
		for _, n := range numbersOf(r, width) {
			got, err := codec.Put(n, width)
			if want := byDivision(n, width); err != nil || !bytes.Equal(got, want) {
				t.Fatalf("Put(%d, %d) = %x, %v, want %x", n, width, got, err, want)
			}
		}
	}
}

func refusePut(t *testing.T, n uint64, width int) {
	t.Helper()
	if got, err := codec.Put(n, width); got != nil || err != api.ErrArg {
		t.Errorf("Put(%d, %d) = %x, %v, want none and ErrArg", n, width, got, err)
	}
}

func TestP1_3WidthsThatAreNone(t *testing.T) {
	for _, width := range []int{0, -1, -2, -8, math.MinInt, math.MinInt + 1, math.MinInt / 8, 9, 10, 16, 64, 256, 257, math.MaxInt, math.MaxInt / 8, math.MaxInt/8 + 1, 1 << 61, 1<<61 + 1, 1 << 32, 1<<32 + 1} {
		for _, n := range []uint64{0, 1, 255, math.MaxUint64} {
			refusePut(t, n, width)
		}
	}
}

func TestP1_3MoreBitsThanTheWidth(t *testing.T) {
	refusePut(t, 258, 1)
	for width := 1; width < 8; width++ {
		refusePut(t, greatest(width)+1, width)
		refusePut(t, math.MaxUint64, width)
		for bit := 8 * width; bit < 64; bit++ {
			refusePut(t, 1<<bit, width)
			refusePut(t, 1<<bit|1, width)
		}
	}
}

func TestP1_4Examples(t *testing.T) {
	for _, c := range []struct {
		p    []byte
		want uint64
	}{
		{[]byte{1, 2}, 258},
		{[]byte{0, 0, 0, 7}, 7},
	} {
		if got, err := codec.Get(c.p); err != nil || got != c.want {
			t.Errorf("Get(%x) = %d, %v, want %d", c.p, got, err, c.want)
		}
	}
}

func TestP1_4EveryWidth(t *testing.T) {
	r := rand.New(rand.NewSource(5))
	for width := 1; width <= 8; width++ {
		for _, n := range numbersOf(r, width) {
			p := byDivision(n, width)
			if got, err := codec.Get(p); err != nil || got != n {
				t.Fatalf("Get(%x) = %d, %v, want %d", p, got, err, n)
			}
		}
	}
}

func TestP1_4ThereAndBack(t *testing.T) {
	r := rand.New(rand.NewSource(6))
	for width := 1; width <= 8; width++ {
		for _, n := range numbersOf(r, width) {
			p, _ := codec.Put(n, width)
			if got, err := codec.Get(p); err != nil || got != n {
				t.Fatalf("Get(Put(%d, %d)) = %d, %v", n, width, got, err)
			}
		}
		for range 200 {
			p := someBytes(r, width)
			n, _ := codec.Get(p)
			if got, err := codec.Put(n, len(p)); err != nil || !bytes.Equal(got, p) {
				t.Fatalf("Put(Get(%x), %d) = %x, %v", p, len(p), got, err)
			}
		}
	}
}

func TestP1_4CountsThatAreNone(t *testing.T) {
	refused := [][]byte{nil, {}, []byte("abc")[:0]}
	for _, count := range []int{9, 10, 16, 255, 256, 257, 264, 4096} {
		refused = append(refused, make([]byte, count), bytes.Repeat([]byte{255}, count))
	}
	for _, p := range refused {
		if got, err := codec.Get(p); got != 0 || err != api.ErrArg {
			t.Errorf("Get of %d bytes = %d, %v, want 0 and ErrArg", len(p), got, err)
		}
	}
}

// TestP1_5HandedInStays looks at what lies ahead of a text and at the room behind it too.
func TestP1_5HandedInStays(t *testing.T) {
	r := rand.New(rand.NewSource(7))
	for n := range 40 {
		whole := someBytes(r, n+32)
		was := bytes.Clone(whole)
		p := whole[8 : 8+n]
		codec.Crc(p)
		codec.CrcMore(r.Uint32(), p)
		codec.Get(p)
		if !bytes.Equal(whole, was) {
			t.Fatalf("%d bytes of %x have become %x", n, was, whole)
		}
	}
}

// TestP1_5NothingIsKept asks again behind a change of what was handed in: the answers are those of the new bytes.
func TestP1_5NothingIsKept(t *testing.T) {
	p := []byte{1, 2, 3, 4}
	codec.Crc(p)
	codec.CrcMore(9, p)
	codec.Get(p)
	p[0] = 5
	if got, want := codec.Crc(p), sumByBits(0, p); got != want {
		t.Errorf("Crc of changed bytes = %#08x, want %#08x", got, want)
	}
	if got, want := codec.CrcMore(9, p), sumByBits(9, p); got != want {
		t.Errorf("CrcMore of changed bytes = %#08x, want %#08x", got, want)
	}
	if got, _ := codec.Get(p); got != 0x05020304 {
		t.Errorf("Get of changed bytes = %#x, want 0x05020304", got)
	}
}

func spoil(p []byte) {
	all := p[:cap(p)]
	for i := range all {
		all[i] = 0xEE
	}
	_ = append(p, 0xEE)
}

func TestP1_5AnswersAreNewMemory(t *testing.T) {
	for width := 1; width <= 8; width++ {
		n := greatest(width) / 3
		first, _ := codec.Put(n, width)
		second, _ := codec.Put(n, width)
		spoil(first)
		if want := byDivision(n, width); !bytes.Equal(second, want) {
			t.Errorf("writing into one Put(%d, %d) changed another: %x, want %x", n, width, second, want)
		}
		if third, _ := codec.Put(n, width); !bytes.Equal(third, second) {
			t.Errorf("writing into one Put(%d, %d) changed a later one: %x, want %x", n, width, third, second)
		}
	}
}

// TestBursts turns bits only within 32 that follow one another: at every place of a text, the first and the last turned one among them.
func TestBursts(t *testing.T) {
	r := rand.New(rand.NewSource(8))
	text := someBytes(r, 40)
	sum := codec.Crc(text)
	for start := range 8*len(text) - 32 + 1 {
		patterns := []uint32{1, 3, 1 << 31, 1<<31 | 1, math.MaxUint32, 0x82F63B78, r.Uint32() | 1, r.Uint32() | 1}
		for _, pattern := range patterns {
			turned := bytes.Clone(text)
			for i := range 32 {
				turned[(start+i)/8] ^= byte(pattern>>i&1) << ((start + i) % 8)
			}
			if codec.Crc(turned) == sum {
				t.Fatalf("bits %032b turned from bit %d on: the same sum", pattern, start)
			}
		}
	}
}

func TestLikeChanges(t *testing.T) {
	r := rand.New(rand.NewSource(9))
	for n := range 100 {
		a, b, c := someBytes(r, n), someBytes(r, n), someBytes(r, n)
		together := make([]byte, n)
		for i := range together {
			together[i] = a[i] ^ b[i] ^ c[i]
		}
		if got, want := codec.Crc(together), codec.Crc(a)^codec.Crc(b)^codec.Crc(c); got != want {
			t.Fatalf("three texts of %d bytes xored: %#08x, want %#08x", n, got, want)
		}
	}
}
