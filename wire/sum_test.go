package wire

import (
	"bytes"
	"hash/crc32"
	"math/rand"
	"sync"
	"testing"
)

func TestSumIsThatOfZip(t *testing.T) {
	var s sums
	if got := s.of([]byte("123456789")); got != 0xcbf43926 {
		t.Errorf("sum of 123456789: %x", got)
	}
	if got := s.of(nil); got != 0 {
		t.Errorf("sum of nothing: %x", got)
	}
	r := rand.New(rand.NewSource(1))
	for n := range 600 {
		b := make([]byte, n)
		r.Read(b)
		if got, want := s.of(b), crc32.ChecksumIEEE(b); got != want {
			t.Errorf("sum of %x: %x, want %x", b, got, want)
		}
	}
}

func TestTableIsFilledWhenFirstAskedFor(t *testing.T) {
	var s sums
	if s.table[1] != 0 {
		t.Errorf("the table is filled ahead of the first sum: %x", s.table[1])
	}
	s.of([]byte{1})
	if s.table != [256]uint32(*crc32.IEEETable) {
		t.Errorf("the table: %x", s.table)
	}
	s.table[0] = 1
	s.of([]byte{1})
	if s.table[0] != 1 {
		t.Errorf("the table is filled once more")
	}
}

func TestSumsAtTheSameTime(t *testing.T) {
	var s sums
	var wait sync.WaitGroup
	var got [16]uint32
	for i := range got {
		wait.Go(func() { got[i] = s.of([]byte("123456789")) })
	}
	wait.Wait()
	for _, sum := range got {
		if sum != 0xcbf43926 {
			t.Errorf("sum of 123456789: %x", sum)
		}
	}
}

func TestSealAndUnseal(t *testing.T) {
	var s sums
	sealed := s.seal([]byte("123456789"))
	if want := []byte("123456789\xcb\xf4\x39\x26"); !bytes.Equal(sealed, want) {
		t.Errorf("seal: %x, want %x", sealed, want)
	}
	body, ok := s.unseal(sealed)
	if !ok || string(body) != "123456789" {
		t.Errorf("unseal: %q, %v", body, ok)
	}
	for n := range len(sealed) {
		if body, ok := s.unseal(sealed[:n]); ok || body != nil {
			t.Errorf("unseal of %x: %q, %v", sealed[:n], body, ok)
		}
	}
}

func TestAppendToWhatWasSplitOffStaysAway(t *testing.T) {
	b := []byte("abcdef")
	first, second := split(b, 2)
	_ = append(first, "XYZ"...)
	if string(first) != "ab" || string(second) != "cdef" || string(b) != "abcdef" {
		t.Errorf("split: %q, %q of %q", first, second, b)
	}
}
