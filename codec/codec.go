// Package codec: sums and numbers in bytes: see DOC.md, layer 1.
package codec

import (
	"math/bits"
	"slices"

	"copse/api"
)

// widest is the most bytes that a number takes.
const widest = 8

// halfByteSteps holds what four steps of the register make of its lowest four bits. Half bytes, because a table of whole bytes is longer than a table at package level may be.
var halfByteSteps = [16]uint32{
	0x00000000, 0x105EC76F, 0x20BD8EDE, 0x30E349B1,
	0x417B1DBC, 0x5125DAD3, 0x61C69362, 0x7198540D,
	0x82F63B78, 0x92A8FC17, 0xA24BB5A6, 0xB21572C9,
	0xC38D26C4, 0xD3D3E1AB, 0xE330A81A, 0xF36E6F75,
}

// Crc is the CRC-32C of p.
func Crc(p []byte) uint32 { return CrcMore(0, p) }

// CrcMore goes on with a sum: CrcMore(Crc(a), b) is the sum of a and b.
func CrcMore(sum uint32, p []byte) uint32 {
	register := ^sum
	for _, b := range p {
		register ^= uint32(b)
		register = register>>4 ^ halfByteSteps[register&15]
		register = register>>4 ^ halfByteSteps[register&15]
	}
	return ^register
}

// Put writes a number in so many bytes, the highest first.
func Put(n uint64, width int) ([]byte, error) {
	if width < 1 || width > widest || bits.Len64(n) > 8*width {
		return nil, api.ErrArg
	}
	var digits [widest]byte
	for i := range widest {
		digits[widest-1-i] = byte(n >> (8 * i))
	}
	return slices.Clone(digits[widest-width:]), nil
}

// Get reads a number of 1 to 8 bytes, the highest first.
func Get(p []byte) (uint64, error) {
	if len(p) < 1 || len(p) > widest {
		return 0, api.ErrArg
	}
	var digits [widest]byte
	copy(digits[widest-len(p):], p)
	var n uint64
	for i := range widest {
		n = n<<8 | uint64(digits[i])
	}
	return n, nil
}
