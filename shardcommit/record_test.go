package shardcommit_test

import (
	"bytes"
	"math"
	"math/rand"
	"reflect"
	"strings"
	"sync"
	"testing"

	"shardcommit/api"
	"shardcommit/plain"
	"shardcommit/shardcommit"
)

func someRecords() []api.Record {
	return []api.Record{
		{LSN: 0, Kind: 0, Payload: ""},
		{LSN: 1, Kind: 2, Payload: "ab"},
		{LSN: 0x0102030405060708, Kind: 9, Payload: "\x00\xff\xfe not utf-8 \x80"},
		{LSN: math.MaxUint64, Kind: math.MaxUint8, Payload: strings.Repeat("\xff", 254)},
		{LSN: 0, Kind: math.MaxUint8, Payload: strings.Repeat("\x00", 255)},
		{LSN: math.MaxUint64, Kind: 0, Payload: "0"},
		{LSN: 7, Kind: 1, Payload: "LSNs need not rise"},
		{LSN: 7, Kind: 1, Payload: "LSNs need not rise"},
	}
}

// together is records one behind the other, and where each of them ends, 0 ahead of all.
func together(records []api.Record) ([]byte, []int) {
	var b []byte
	ends := []int{0}
	for _, r := range records {
		b = append(b, recordBytes(r)...)
		ends = append(ends, len(b))
	}
	return b, ends
}

// wholeWithin is how many records end at n or ahead of it.
func wholeWithin(ends []int, n int) int {
	i := 0
	for i+1 < len(ends) && ends[i+1] <= n {
		i++
	}
	return i
}

func checkScan(t *testing.T, what string, b []byte, want []api.Record, size int) {
	t.Helper()
	if len(want) == 0 {
		want = nil
	}
	got, n := shardcommit.Scan(b)
	if !reflect.DeepEqual(got, want) || n != size {
		t.Errorf("P4: Scan of %s: %v, %d, want %v, %d", what, got, n, want, size)
	}
}

func TestP3Records(t *testing.T) {
	for _, r := range someRecords() {
		b, err := shardcommit.EncodeRecord(r)
		if want := recordBytes(r); !bytes.Equal(b, want) || err != nil {
			t.Errorf("P3: EncodeRecord(%v) = %x, %v, want %x", r, b, err, want)
		}
	}
}

func TestP3Example(t *testing.T) {
	b, err := shardcommit.EncodeRecord(api.Record{LSN: 1, Kind: 2, Payload: "ab"})
	if want := unhex(t, "00020000000000000001026162872d3184"); !bytes.Equal(b, want) || err != nil {
		t.Errorf("P3: the example: %x, %v, want %x", b, err, want)
	}
}

func TestP3EveryLengthOfPayload(t *testing.T) {
	for n := 0; n <= 600; n++ {
		r := api.Record{LSN: uint64(n), Kind: uint8(n), Payload: strings.Repeat("p", n)}
		b, err := shardcommit.EncodeRecord(r)
		if n > 255 {
			if b != nil || err != api.ErrBig {
				t.Errorf("P3: EncodeRecord of %d bytes: %x, %v, want ErrBig", n, b, err)
			}
			continue
		}
		if !bytes.Equal(b, recordBytes(r)) || err != nil {
			t.Errorf("P3: EncodeRecord of %d bytes: %x, %v", n, b, err)
		}
	}
}

func TestP3LengthsThatTwoBytesWouldWrap(t *testing.T) {
	for _, n := range []int{65535, 65536, 65537, 65536 + 255, 1 << 20} {
		b, err := shardcommit.EncodeRecord(api.Record{LSN: 1, Payload: strings.Repeat("p", n)})
		if b != nil || err != api.ErrBig {
			t.Errorf("P3: EncodeRecord of %d bytes: %d bytes, %v, want ErrBig", n, len(b), err)
		}
	}
}

func TestP4NoBytes(t *testing.T) {
	checkScan(t, "nil", nil, nil, 0)
	checkScan(t, "no bytes", []byte{}, nil, 0)
}

func TestP4OneAndSeveral(t *testing.T) {
	records := someRecords()
	for _, r := range records {
		checkScan(t, "one", recordBytes(r), []api.Record{r}, 15+len(r.Payload))
	}
	b, ends := together(records)
	for i := range ends {
		checkScan(t, "several", b[:ends[i]], records[:i], ends[i])
	}
}

func TestP4EndsWithinARecord(t *testing.T) {
	records := someRecords()
	b, ends := together(records)
	for n := range b {
		i := wholeWithin(ends, n)
		checkScan(t, "a beginning", b[:n], records[:i], ends[i])
	}
}

func TestP4ABitTurned(t *testing.T) {
	records := someRecords()
	b, ends := together(records)
	for i := range b {
		for bit := range 8 {
			b[i] ^= 1 << bit
			whole := wholeWithin(ends, i)
			checkScan(t, "a bit turned", b, records[:whole], ends[whole])
			b[i] ^= 1 << bit
		}
	}
}

func TestP4AboveTheBoundWithItsRightSum(t *testing.T) {
	small := api.Record{LSN: 1, Kind: 2, Payload: "ab"}
	for _, n := range []int{256, 257, 511, 512, 65535} {
		big := recordBytes(api.Record{LSN: 2, Kind: 7, Payload: strings.Repeat("x", n)})
		checkScan(t, "a payload above the bound", big, nil, 0)
		b := append(recordBytes(small), big...)
		b = append(b, recordBytes(small)...)
		checkScan(t, "one above the bound between others", b, []api.Record{small}, 17)
	}
}

func TestP4AWrongSum(t *testing.T) {
	body := recordBytes(api.Record{LSN: 3, Kind: 4, Payload: "abc"})[:14]
	sum := recordBytes(api.Record{LSN: 3, Kind: 4, Payload: "abc"})[14:]
	turnedRound := append(append([]byte(nil), body...), sum[3], sum[2], sum[1], sum[0])
	checkScan(t, "a sum with its lowest byte first", turnedRound, nil, 0)
	checkScan(t, "a sum of 0", append(append([]byte(nil), body...), 0, 0, 0, 0), nil, 0)
	checkScan(t, "bytes that are all 0", make([]byte, 100), nil, 0)
}

func TestP4OtherBytesBehindTheLast(t *testing.T) {
	records := someRecords()
	b, _ := together(records)
	for _, tail := range []string{"\x00", "!", "\xff\xff\xff", strings.Repeat("\x00", 15), strings.Repeat("z", 400)} {
		checkScan(t, "records and other bytes", append(b[:len(b):len(b)], tail...), records, len(b))
	}
	checkScan(t, "a byte ahead of the records", append([]byte{0}, b...), nil, 0)
}

func TestP4NothingCountsBehindADamagedOne(t *testing.T) {
	r := api.Record{LSN: 1, Kind: 1, Payload: "one"}
	one := recordBytes(r)
	damaged := append([]byte(nil), one...)
	damaged[12]++
	checkScan(t, "a damaged one between whole ones", bytes.Join([][]byte{one, damaged, one}, nil), []api.Record{r}, len(one))
}

func TestP3P4WrittenAndRead(t *testing.T) {
	r := rand.New(rand.NewSource(3))
	var b []byte
	var want []api.Record
	for range 500 {
		payload := make([]byte, r.Intn(256))
		r.Read(payload)
		record := api.Record{LSN: r.Uint64(), Kind: uint8(r.Intn(256)), Payload: string(payload)}
		one, err := shardcommit.EncodeRecord(record)
		if err != nil {
			t.Fatalf("P3: EncodeRecord(%v): %v", record, err)
		}
		b, want = append(b, one...), append(want, record)
	}
	checkScan(t, "500 records", b, want, len(b))
}

func TestP1ScanOfAnyBytes(t *testing.T) {
	r := rand.New(rand.NewSource(1))
	whole, _ := together(someRecords())
	for n := range 3000 {
		b := make([]byte, n%400)
		r.Read(b)
		if n%2 == 0 && len(b) > 1 {
			b[0], b[1] = 0, byte(r.Intn(256))
		}
		checkScan(t, "any bytes", b, nil, 0)
		got, size := shardcommit.Scan(append(whole[:len(whole):len(whole)], b...))
		if len(got) != 8 || size != len(whole) {
			t.Errorf("P4: Scan of records and %x: %d records, %d bytes", b, len(got), size)
		}
	}
}

func TestP2RecordsThatComeOutAreNew(t *testing.T) {
	r := api.Record{LSN: 1, Kind: 2, Payload: "ab"}
	first, _ := shardcommit.EncodeRecord(r)
	second, _ := shardcommit.EncodeRecord(r)
	scribble(first[:cap(first)])
	if !bytes.Equal(second, recordBytes(r)) {
		t.Errorf("P2: EncodeRecord's bytes are shared: %x", second)
	}
}

func TestP2ScanKeepsAndWritesNothing(t *testing.T) {
	records := someRecords()
	whole, ends := together(records)
	for n := 0; n <= len(whole); n += 5 {
		b := roomy(whole[:n])
		got, size := shardcommit.Scan(b)
		again, _ := shardcommit.Scan(b)
		if !untouched(b, whole[:n]) {
			t.Fatalf("P2: Scan wrote into its bytes")
		}
		scribble(b)
		for i := range again {
			again[i] = api.Record{}
		}
		i := wholeWithin(ends, n)
		if len(got) != i || size != ends[i] || i > 0 && !reflect.DeepEqual(got, records[:i]) {
			t.Errorf("P2: Scan keeps what was handed in: %v", got)
		}
	}
}

func TestP2RecordsAtTheSameTime(t *testing.T) {
	records := someRecords()
	b, _ := together(records)
	var wait sync.WaitGroup
	for _, r := range records {
		wait.Go(func() {
			checkScan(t, "records, at the same time", b, records, len(b))
			if one, err := shardcommit.EncodeRecord(r); !bytes.Equal(one, recordBytes(r)) || err != nil {
				t.Errorf("P3: EncodeRecord(%v), at the same time: %x, %v", r, one, err)
			}
		})
	}
	wait.Wait()
}

func TestRecordsAskedFromOutside(t *testing.T) {
	r := api.Record{LSN: 1, Kind: 2, Payload: "ab"}
	b, no := plain.EncodeRecord(r)
	if !bytes.Equal(b, recordBytes(r)) || no != api.OK {
		t.Errorf("P3: %x, %d", b, no)
	}
	if l, n := plain.Scan(b); len(l) != 1 || l[0] != r || n != len(b) {
		t.Errorf("P4: %v, %d", l, n)
	}
	if b, no := plain.EncodeRecord(api.Record{Payload: strings.Repeat("p", 256)}); b != nil || no != api.ErrBig {
		t.Errorf("P3: %x, %d", b, no)
	}
}
