// Package frame: numbers and blocks as bytes: see the document's chapter.
package frame

import (
	"iter"

	"stillwater/api"
)

const (
	maxKind    = 15
	kindUnit   = 16 // what one more of Kind adds to the first byte
	headBytes  = 2
	sealBytes  = 4
	groupBits  = 7
	moreFollow = 1 << groupBits
	maxGroups  = 5 // of MaxNumber
	polynomial = uint32(0xEDB88320)
)

// Frame: a kind, numbers, blocks.
type Frame struct {
	Kind   int
	Nums   []int
	Blocks []api.Block
}

// seal is a sum as it stands at the end of a frame; an array, so that two of them are compared whole.
type seal [sealBytes]byte

// Check says whether a frame may be.
func Check(f Frame) error {
	if f.Kind < 0 || f.Kind > maxKind {
		return api.ErrRange
	}
	if len(f.Nums) > api.MaxNums || len(f.Blocks) > api.MaxLoad {
		return api.ErrLimit
	}
	for _, n := range f.Nums {
		if n < 0 || n > api.MaxNumber {
			return api.ErrRange
		}
	}
	return nil
}

// Pack a frame.
func Pack(f Frame) ([]byte, error) {
	if err := Check(f); err != nil {
		return nil, err
	}
	b := []byte{byte(f.Kind*kindUnit + len(f.Nums)), byte(len(f.Blocks))}
	for _, n := range f.Nums {
		b = appendNumber(b, n)
	}
	for _, block := range f.Blocks {
		b = append(b, block[:]...)
	}
	s := sealOf(b)
	return append(b, s[:]...), nil
}

// Sum of bytes: the rest of a division of polynomials (32 bits).
func Sum(b []byte) uint32 {
	sum := ^uint32(0)
	for _, c := range b {
		sum ^= uint32(c)
		for range 8 {
			out := sum & 1
			sum >>= 1
			if out == 1 {
				sum ^= polynomial
			}
		}
	}
	return ^sum
}

// Unpack a frame.
func Unpack(b []byte) (Frame, error) {
	if len(b) < headBytes+sealBytes {
		return Frame{}, api.ErrForm
	}
	body, end := b[:len(b)-sealBytes], b[len(b)-sealBytes:]
	f, ok := readBody(body)
	// The form is looked at ahead of the sum: a long text that is no frame then costs nothing.
	if !ok || readSeal(end) != sealOf(body) {
		return Frame{}, api.ErrForm
	}
	return f, nil
}

// readBody reads what stands ahead of the seal; false: no frame has these bytes.
func readBody(body []byte) (Frame, bool) {
	f := Frame{Kind: int(body[0]) / kindUnit}
	nums, blocks := int(body[0])%kindUnit, int(body[1])
	if nums > api.MaxNums || blocks > api.MaxLoad {
		return Frame{}, false
	}
	rest := body[headBytes:]
	for range nums {
		n, size := readNumber(rest)
		if size == 0 {
			return Frame{}, false
		}
		f.Nums = append(f.Nums, n)
		rest = rest[size:]
	}
	if len(rest) != blocks*api.Wide {
		return Frame{}, false
	}
	for block := range blocksOf(rest) {
		f.Blocks = append(f.Blocks, block)
	}
	return f, true
}

// appendNumber appends the groups of a number that Check lets pass.
func appendNumber(b []byte, n int) []byte {
	for n >= moreFollow {
		b = append(b, byte(n%moreFollow+moreFollow))
		n /= moreFollow
	}
	return append(b, byte(n))
}

// readNumber reads the number at the front of b, and tells how many bytes it takes; 0: no number in its shortest form is there.
func readNumber(b []byte) (n, size int) {
	value := uint64(0)
	for i, c := range b {
		// Bits of a group further on could be shifted out unseen.
		if i == maxGroups {
			return 0, 0
		}
		value |= uint64(c%moreFollow) << (groupBits * i)
		if c < moreFollow {
			padded := c == 0 && i > 0
			if padded || value > api.MaxNumber {
				return 0, 0
			}
			return int(value), i + 1
		}
	}
	return 0, 0
}

// blocksOf gives the blocks that b is made of, one by one.
func blocksOf(b []byte) iter.Seq[api.Block] {
	return func(yield func(api.Block) bool) {
		for at := 0; at+api.Wide <= len(b); at += api.Wide {
			var block api.Block
			copy(block[:], b[at:at+api.Wide])
			if !yield(block) {
				return
			}
		}
	}
}

// sealOf makes the seal of what stands ahead of it.
func sealOf(body []byte) seal {
	s := Sum(body)
	return seal{byte(s >> 24), byte(s >> 16), byte(s >> 8), byte(s)}
}

// readSeal takes the seal from the end of a frame.
func readSeal(end []byte) seal {
	var s seal
	copy(s[:], end)
	return s
}
