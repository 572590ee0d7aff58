package shardcommit_test

import (
	"encoding/binary"
	"encoding/hex"
	"hash/crc32"
	"runtime/debug"
	"strconv"
	"strings"
	"testing"

	"shardcommit/api"
	"shardcommit/shardcommit"
)

// TestMain: many short lives leave much behind, of which little is alive at a time: so it is collected seldom.
func TestMain(m *testing.M) {
	debug.SetGCPercent(800)
	m.Run()
}

// These write bytes by the library's means, without the project's, so that both must agree on what the document says.

func withSum(b []byte) []byte {
	return binary.BigEndian.AppendUint32(b, crc32.ChecksumIEEE(b))
}

func recordBytes(r api.Record) []byte {
	b := binary.BigEndian.AppendUint16(nil, uint16(len(r.Payload)))
	b = binary.BigEndian.AppendUint64(b, r.LSN)
	b = append(b, r.Kind)
	return withSum(append(b, r.Payload...))
}

func messageBytes(kind, from, to byte, txn uint64) []byte {
	return withSum(binary.BigEndian.AppendUint64([]byte{kind, from, to}, txn))
}

func unhex(t *testing.T, s string) []byte {
	t.Helper()
	b, err := hex.DecodeString(s)
	if err != nil {
		t.Fatal(err)
	}
	return b
}

// roomy is b with marked room behind it, to see whether a call writes there.
func roomy(b []byte) []byte {
	room := append(append([]byte(nil), b...), "room room room room"...)
	return room[:len(b)]
}

func untouched(b []byte, want []byte) bool {
	return string(b) == string(want) && string(b[:len(b)+19][len(b):]) == "room room room room"
}

func scribble(b []byte) {
	for i := range b {
		b[i] = '!'
	}
}

// ask calls a shard, coordinator or node, by words, and tells what it answered, or the error.
func ask(keeper any, words string) string {
	switch k := keeper.(type) {
	case *shardcommit.Shard:
		return askShard(k, words)
	case *shardcommit.Coordinator:
		return askCoordinator(k, words)
	case *shardcommit.Node:
		return askNode(k, words)
	}
	return "no such keeper"
}

// orError: the answer, or, if there is an error, that: the program's own by its number.
func orError(answer string, err error) string {
	if e, ok := err.(api.Errno); ok {
		return strconv.Itoa(int(e))
	} else if err != nil {
		return err.Error()
	}
	return answer
}

// wantAnswers asks one behind the other: "put 1 0 a x: done".
func wantAnswers(t *testing.T, keeper any, rows ...string) {
	t.Helper()
	for i, row := range rows {
		words, want, _ := strings.Cut(row, ": ")
		if got := ask(keeper, words); got != want {
			t.Fatalf("row %d: %s: %s, want %s", i, words, got, want)
		}
	}
}

// opened opens a keeper that must open.
func opened[K any](t *testing.T, open func(api.Disk) (*K, error), d api.Disk) *K {
	t.Helper()
	k, err := open(d)
	if k == nil || err != nil {
		t.Fatalf("opened: %v, %v", k != nil, err)
	}
	return k
}

// again: the power fails, and all is lost that can be; a keeper is opened anew.
func again[K any](t *testing.T, open func(api.Disk) (*K, error), d *disk) *K {
	t.Helper()
	d.lose(loseAll)
	return opened(t, open, d)
}

// stays: what is opened by open must open now, and once more behind other failures of the power (open sees to it that it is the same).
func stays(t *testing.T, d *disk, open func() bool) {
	t.Helper()
	d.well()
	for range 2 {
		if !open() {
			t.Fatalf("it does not open")
		}
		d.lose(loseAll)
	}
	if !open() {
		t.Fatalf("it does not open")
	}
}

// failsToOpen: whichever call fails of the disk that another left, the keeper is not opened, and just what the disk said is told; later sees what one is that is opened then.
func failsToOpen[K any](t *testing.T, left func() *disk, open func(api.Disk) (*K, error), later func(k *K)) {
	t.Helper()
	for _, says := range []error{errBroken, api.ErrDown, api.ErrFull} {
		for at := 1; ; at++ {
			d := left()
			d.lose(loseAll)
			d.asksAt, d.says = at, says
			k, err := open(d)
			if d.asksAt > 0 {
				if at < 6 {
					t.Errorf("it calls the disk %d times", at-1)
				}
				break
			}
			if k != nil || err != says {
				t.Fatalf("call %d says %v: opened: %v, %v", at, says, k != nil, err)
			}
			later(again(t, open, d))
		}
	}
}

// writeRecords: a disk has a log with these records.
func writeRecords(t *testing.T, d *disk, records []api.Record) {
	t.Helper()
	l := logOver(t, d)
	for _, r := range records {
		if _, err := l.Append(r.Kind, r.Payload); err != nil {
			t.Fatalf("Append = %v", err)
		}
	}
}
