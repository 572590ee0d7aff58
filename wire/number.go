package wire

import "math/bits"

// unsigned is the numbers that go into bytes. The type alone says how many bytes a number has, so that writing and reading cannot differ about it.
type unsigned interface {
	uint8 | uint16 | uint32 | uint64
}

// width tells how many bytes a number of the type has.
func width[N unsigned]() int {
	return bits.Len64(uint64(^N(0))) / 8
}

// AppendNumber writes a number behind b, its highest byte first.
func AppendNumber[N unsigned](b []byte, n N) []byte {
	for left := width[N]() - 1; left >= 0; left-- {
		b = append(b, byte(uint64(n)>>(8*left)))
	}
	return b
}

// takeNumber reads the number at the beginning of b, and hands on what lies behind it. The caller has seen to it that b is long enough.
func takeNumber[N unsigned](b []byte) (N, []byte) {
	size := width[N]()
	n := uint64(0)
	for _, c := range b[:size] {
		n = n<<8 | uint64(c)
	}
	return N(n), b[size:]
}
