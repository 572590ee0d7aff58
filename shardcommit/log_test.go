package shardcommit_test

import (
	"errors"
	"math"
	"slices"
	"strconv"
	"strings"
	"sync"
	"testing"

	"shardcommit/api"
	"shardcommit/shardcommit"
)

func logOver(t *testing.T, d api.Disk) *shardcommit.Log {
	t.Helper()
	return opened(t, shardcommit.OpenLog, d)
}

func logAgain(t *testing.T, d *disk) *shardcommit.Log {
	t.Helper()
	return again(t, shardcommit.OpenLog, d)
}

func recordsOf(t *testing.T, l *shardcommit.Log) []api.Record {
	t.Helper()
	walk := l.All()
	if walk == nil {
		t.Fatalf("All is nil")
	}
	var records []api.Record
	for r := range walk {
		records = append(records, r)
	}
	return records
}

// mustAppend appends a record that tells its number, and has so many bytes of payload.
func mustAppend(t *testing.T, l *shardcommit.Log, bytes int) {
	t.Helper()
	want := l.Next()
	if n, err := l.Append(uint8(want), payloadOf(want, bytes)); n != want || err != nil {
		t.Fatalf("Append = %d, %v, want %d", n, err, want)
	}
}

func payloadOf(number uint64, bytes int) string {
	s := strconv.FormatUint(number, 10)
	return (s + strings.Repeat(".", bytes))[:bytes]
}

// wantRecords: the log has just those records that mustAppend appended, from first up to last.
func wantRecords(t *testing.T, l *shardcommit.Log, first, last uint64, bytes int) {
	t.Helper()
	var want []api.Record
	for n := first; n <= last; n++ {
		want = append(want, api.Record{LSN: n, Kind: uint8(n), Payload: payloadOf(n, bytes)})
	}
	if got := recordsOf(t, l); !slices.Equal(got, want) || l.Next() != last+1 {
		t.Fatalf("records %v, next %d, want %v", got, l.Next(), want)
	}
}

func TestP6EmptyLog(t *testing.T) {
	d := newDisk()
	l := logOver(t, d)
	wantRecords(t, l, 1, 0, 0)
	l = logOver(t, d)
	wantRecords(t, l, 1, 0, 0)
	if err := l.Force(); err != nil {
		t.Errorf("Force of an empty log: %v", err)
	}
	l = logAgain(t, d)
	wantRecords(t, l, 1, 0, 0)
	mustAppend(t, l, 3)
	wantRecords(t, l, 1, 1, 3)
}

func TestP6NoDisk(t *testing.T) {
	if l, err := shardcommit.OpenLog(nil); l != nil || err != api.ErrDown {
		t.Errorf("OpenLog(nil) = %v, %v", l != nil, err)
	}
	var l shardcommit.Log
	if n, err := l.Append(1, "a"); n != 0 || err != api.ErrDown {
		t.Errorf("Append without a disk = %d, %v", n, err)
	}
	if err := l.Cut(1); err != api.ErrDown {
		t.Errorf("Cut without a disk = %v", err)
	}
	if len(recordsOf(t, &l)) != 0 {
		t.Errorf("records without a disk")
	}
}

// P6: the error is what the disk said, and a log that is opened later has all.
func TestP6TheDiskSaysAnError(t *testing.T) {
	left := func() *disk {
		d := newDisk()
		l := logOver(t, d)
		for range 20 {
			mustAppend(t, l, 100)
		}
		d.failing(6, errBroken) // the mark is set, and the files below it are there still
		if err := l.Cut(15); err != errBroken {
			t.Fatalf("Cut = %v", err)
		}
		return d
	}
	failsToOpen(t, left, shardcommit.OpenLog, func(l *shardcommit.Log) {
		if got := recordsOf(t, l); l.Next() != 21 || got[0].LSN > 15 {
			t.Fatalf("later %d records, next %d", len(got), l.Next())
		}
	})
}

func TestP7Append(t *testing.T) {
	d := newDisk()
	l := logOver(t, d)
	want := []api.Record{
		{LSN: 1, Kind: 0, Payload: ""},
		{LSN: 2, Kind: 255, Payload: strings.Repeat("\x00", 255)},
		{LSN: 3, Kind: 7, Payload: "\xff\xfe no text"},
	}
	for i, r := range want {
		if n, err := l.Append(r.Kind, r.Payload); n != r.LSN || err != nil || l.Next() != r.LSN+1 {
			t.Fatalf("Append %d = %d, %v, next %d", i, n, err, l.Next())
		}
	}
	for _, size := range []int{256, 257, 65536, 65791} {
		writes := d.writes
		n, err := l.Append(1, strings.Repeat("x", size))
		if n != 0 || err != api.ErrBig || l.Next() != 4 || d.writes != writes {
			t.Errorf("Append of %d bytes = %d, %v, next %d", size, n, err, l.Next())
		}
	}
	if got := recordsOf(t, l); !slices.Equal(got, want) {
		t.Errorf("records %v", got)
	}
	if err := l.Force(); err != nil {
		t.Errorf("Force = %v", err)
	}
	l = logAgain(t, d)
	if got := recordsOf(t, l); !slices.Equal(got, want) || l.Next() != 4 {
		t.Errorf("later: records %v, next %d", got, l.Next())
	}
}

func TestP7Walk(t *testing.T) {
	l := logOver(t, newDisk())
	walk := l.All()
	for range walk {
		t.Fatalf("a record of an empty log")
	}
	for range 40 {
		mustAppend(t, l, 50)
	}
	for _, end := range []int{1, 2, 39, 40, 1, 41} { // the walk that was handed out ahead of the records, again and again
		count := 0
		for r := range walk {
			count++
			if r.LSN != uint64(count) {
				t.Fatalf("record %d has the number %d", count, r.LSN)
			}
			if count == end {
				break
			}
		}
		if count != min(end, 40) {
			t.Errorf("a walk up to %d had %d", end, count)
		}
	}
	count := 0
	for r := range walk { // it ends, though there is more and more, and what it goes through is cut
		count++
		if r.LSN != uint64(count) || r.Payload != payloadOf(r.LSN, 50) {
			t.Fatalf("record %d of a walk beside Cut is %v", count, r)
		}
		mustAppend(t, l, 50)
		if err := l.Cut(l.Next() - 25); err != nil {
			t.Fatalf("Cut = %v", err)
		}
	}
	if count != 40 || l.Next() != 81 {
		t.Errorf("a walk beside Append had %d, next %d", count, l.Next())
	}
}

func TestP8Force(t *testing.T) {
	for count := range 60 {
		d := newDisk()
		l := logOver(t, d)
		for range count {
			mustAppend(t, l, 37)
		}
		if err := l.Force(); err != nil {
			t.Fatalf("Force = %v", err)
		}
		wantRecords(t, l, 1, uint64(count), 37)
		l = logAgain(t, d)
		wantRecords(t, l, 1, uint64(count), 37)
		mustAppend(t, l, 37)
		if err := l.Force(); err != nil {
			t.Fatalf("Force = %v", err)
		}
		wantRecords(t, logAgain(t, d), 1, uint64(count)+1, 37)
	}
}

// P8: a log that is opened while the disk is up, and not yet durable all over, and then forced.
func TestP8ForceOfWhatAnotherLeft(t *testing.T) {
	d := newDisk()
	l := logOver(t, d)
	for range 7 {
		mustAppend(t, l, 37)
	}
	l = logOver(t, d)
	wantRecords(t, l, 1, 7, 37)
	if err := l.Force(); err != nil {
		t.Fatalf("Force = %v", err)
	}
	wantRecords(t, logAgain(t, d), 1, 7, 37)
}

// checkCut: behind a Cut at low of a log that has records up to last.
func checkCut(t *testing.T, l *shardcommit.Log, low, last uint64, bytes int) uint64 {
	t.Helper()
	got := recordsOf(t, l)
	first := last + 1
	if len(got) > 0 {
		first = got[0].LSN
	}
	wantRecords(t, l, first, last, bytes)
	if first > max(min(low, last+1), 1) {
		t.Fatalf("Cut(%d): the first is %d", low, first)
	}
	if below := bytesBelow(got, low); below >= 900 {
		t.Fatalf("Cut(%d): %d bytes lie below", low, below)
	}
	return first
}

func bytesBelow(records []api.Record, low uint64) int {
	below := 0
	for _, r := range records {
		if r.LSN < low {
			below += len(recordBytes(r))
		}
	}
	return below
}

func TestP9Cut(t *testing.T) {
	for _, bytes := range []int{0, 1, 20, 100, 254, 255} {
		for count := uint64(0); count <= 45; count += 9 {
			for _, low := range []uint64{0, 1, 2, count / 2, count, count + 1, count + 2, math.MaxUint64} {
				d := newDisk()
				l := logOver(t, d)
				for range count {
					mustAppend(t, l, bytes)
				}
				if err := l.Cut(low); err != nil {
					t.Fatalf("Cut(%d) = %v", low, err)
				}
				first := checkCut(t, l, low, count, bytes)
				for range 2 {
					l = logAgain(t, d)
					wantRecords(t, l, first, count, bytes)
				}
				mustAppend(t, l, bytes)
				wantRecords(t, l, first, count+1, bytes)
			}
		}
	}
}

// P9: one Cut behind the other: lower ones too bring nothing back.
func TestP9CutAgain(t *testing.T) {
	d := newDisk()
	l := logOver(t, d)
	for range 200 {
		mustAppend(t, l, 60)
	}
	was, highest := uint64(1), uint64(0)
	for _, low := range []uint64{0, 30, 30, 31, 12, 90, 201, 1, math.MaxUint64} {
		highest = max(highest, low)
		if err := l.Cut(low); err != nil {
			t.Fatalf("Cut(%d) = %v", low, err)
		}
		first := checkCut(t, l, highest, 200, 60)
		if first < was {
			t.Fatalf("Cut(%d): the first is %d, and was %d", low, first, was)
		}
		was = first
		if low == 30 {
			l = logAgain(t, d)
			wantRecords(t, l, first, 200, 60)
		}
	}
	if d.size() > 1000 {
		t.Errorf("the disk has %d bytes", d.size())
	}
}

// P9: Cut forces, also where nothing goes.
func TestP9CutForces(t *testing.T) {
	for _, low := range []uint64{0, 1, 5, 30, 99} {
		d := newDisk()
		l := logOver(t, d)
		for range 30 {
			mustAppend(t, l, 60)
		}
		if err := l.Cut(low); err != nil {
			t.Fatalf("Cut = %v", err)
		}
		writes := d.writes
		if err := l.Force(); err != nil || d.writes != writes {
			t.Errorf("Force behind Cut = %v, and writes %d times", err, d.writes-writes)
		}
		if l = logAgain(t, d); l.Next() != 31 {
			t.Errorf("behind Cut(%d) the next is %d", low, l.Next())
		}
	}
}

// P2: a disk writes into what it is handed, and what it hands out is written into later; other files stay.
func TestP2LogSharesNothing(t *testing.T) {
	d := newDisk()
	for _, name := range []string{"other", "segment-", "segment-01", "segment-x", "segment-18446744073709551616"} {
		if err := d.Write(name, []byte("no segment")); err != nil {
			t.Fatal(err)
		}
	}
	l := logOver(t, d)
	long := []byte(strings.Repeat("abc", 50))
	if _, err := l.Append(9, string(long[:3])); err != nil {
		t.Fatalf("Append = %v", err)
	}
	scribble(long)
	want := []api.Record{{LSN: 1, Kind: 9, Payload: "abc"}}
	if err := l.Cut(2); err != nil || !slices.Equal(recordsOf(t, l), want) {
		t.Errorf("records %v, %v", recordsOf(t, l), err)
	}
	if got := recordsOf(t, logAgain(t, d)); !slices.Equal(got, want) || d.now["segment-01"] != "no segment" || d.now["other"] != "no segment" {
		t.Errorf("later: records %v on %v", got, d)
	}
}

func TestP2LogsAtTheSameTime(t *testing.T) {
	var wait sync.WaitGroup
	var errs [8]error
	for i := range errs {
		wait.Go(func() {
			d := newDisk()
			l, err := shardcommit.OpenLog(d)
			for n := uint64(1); n <= 50 && err == nil; n++ {
				_, err = l.Append(uint8(i), payloadOf(n, 10*i))
			}
			errs[i] = errors.Join(err, l.Cut(25))
			for r := range l.All() {
				if r.Kind != uint8(i) || r.Payload != payloadOf(r.LSN, 10*i) {
					errs[i] = errBroken
				}
			}
		})
	}
	wait.Wait()
	for i, err := range errs {
		if err != nil {
			t.Errorf("log %d: %v", i, err)
		}
	}
}
