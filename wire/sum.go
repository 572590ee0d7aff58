package wire

import "sync"

// sumSize is how many bytes a sum has.
const sumSize = 4

// polynomial is that of the CRC-32 of IEEE, its lowest bit first.
const polynomial = 0xedb88320

// sums makes sums. The zero value is ready. Its table is its own, not the package's: nothing is shared between calls that run at the same time.
type sums struct {
	once  sync.Once
	table [256]uint32 // by a byte: what that byte does to a sum
}

// of is the CRC-32 of b. The table is filled here and not ahead, since many a call finds bytes too short to have a sum.
func (s *sums) of(b []byte) uint32 {
	s.once.Do(func() {
		for i := range s.table {
			s.table[i] = turned(uint32(i))
		}
	})
	sum := ^uint32(0)
	for _, c := range b {
		sum = s.table[byte(sum)^c] ^ sum>>8
	}
	return ^sum
}

// turned is what a byte does to a sum, bit by bit.
func turned(c uint32) uint32 {
	for range 8 {
		odd := c&1 == 1
		c >>= 1
		if odd {
			c ^= polynomial
		}
	}
	return c
}

// seal writes the sum of all of b behind it.
func (s *sums) seal(b []byte) []byte {
	return AppendNumber(b, s.of(b))
}

// unseal hands on what lies ahead of the sum at the end of b; false: b has not its right sum there.
func (s *sums) unseal(b []byte) ([]byte, bool) {
	if len(b) < sumSize {
		return nil, false
	}
	body, rest := split(b, len(b)-sumSize)
	sum, _ := takeNumber[uint32](rest)
	if sum != s.of(body) {
		return nil, false
	}
	return body, true
}

// split parts b, which is the caller's. The room of the first part ends with it: what is appended to it cannot run into the bytes behind.
func split(b []byte, at int) ([]byte, []byte) {
	return b[:at:at], b[at:]
}
