package wire

import (
	"bytes"
	"math"
	"testing"
)

func checkNumber[N unsigned](t *testing.T, n N, want ...byte) {
	t.Helper()
	head := []byte{9, 9}
	got := AppendNumber(head, n)
	if !bytes.Equal(got, append([]byte{9, 9}, want...)) {
		t.Errorf("AppendNumber(%d) = %x, want 0909%x", n, got, want)
	}
	back, rest := takeNumber[N](append(append([]byte{}, want...), 7, 8))
	if back != n || !bytes.Equal(rest, []byte{7, 8}) {
		t.Errorf("takeNumber(%x) = %d, %x, want %d, 0708", want, back, rest, n)
	}
}

func TestNumbersHaveTheirHighestByteFirst(t *testing.T) {
	checkNumber(t, uint8(0), 0)
	checkNumber(t, uint8(0x12), 0x12)
	checkNumber(t, uint8(math.MaxUint8), 255)
	checkNumber(t, uint16(0x1234), 0x12, 0x34)
	checkNumber(t, uint16(math.MaxUint16), 255, 255)
	checkNumber(t, uint32(0x12345678), 0x12, 0x34, 0x56, 0x78)
	checkNumber(t, uint32(math.MaxUint32), 255, 255, 255, 255)
	checkNumber(t, uint64(1), 0, 0, 0, 0, 0, 0, 0, 1)
	checkNumber(t, uint64(0x0123456789abcdef), 0x01, 0x23, 0x45, 0x67, 0x89, 0xab, 0xcd, 0xef)
	checkNumber(t, uint64(math.MaxUint64), 255, 255, 255, 255, 255, 255, 255, 255)
}
