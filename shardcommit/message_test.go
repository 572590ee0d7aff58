package shardcommit_test

import (
	"bytes"
	"errors"
	"math"
	"math/rand"
	"sync"
	"testing"

	"shardcommit/api"
	"shardcommit/plain"
	"shardcommit/shardcommit"
)

// isOne tells by the document's words whether there is such a message.
func isOne(m api.Message) bool {
	const toShard, fromShard = 1, 2
	way := map[int]int{1: toShard, 5: toShard, 6: toShard, 2: fromShard, 3: fromShard, 4: fromShard, 7: fromShard, 8: fromShard}[m.Kind]
	shard, other := m.To, m.From
	if way == fromShard {
		shard, other = m.From, m.To
	}
	return way != 0 && other == 0 && 1 <= shard && shard <= 8 && m.Txn != 0
}

// allMessages is every message there is about these transactions.
func allMessages(txns ...uint64) []api.Message {
	var l []api.Message
	for _, txn := range txns {
		for shard := 1; shard <= 8; shard++ {
			for _, kind := range []int{api.Prepare, api.Commit, api.Abort} {
				l = append(l, api.Message{Kind: kind, From: 0, To: shard, Txn: txn})
			}
			for _, kind := range []int{api.Yes, api.No, api.ReadOnly, api.Ack, api.Inquire} {
				l = append(l, api.Message{Kind: kind, From: shard, To: 0, Txn: txn})
			}
		}
	}
	return l
}

func bytesOf(m api.Message) []byte {
	return messageBytes(byte(m.Kind), byte(m.From), byte(m.To), m.Txn)
}

func checkNoMessage(t *testing.T, what string, b []byte) {
	t.Helper()
	m, err := shardcommit.DecodeMessage(b)
	if m != (api.Message{}) || err != api.ErrFrame || !errors.Is(err, api.ErrFrame) {
		t.Errorf("P5: DecodeMessage of %s, %x: %+v, %v, want ErrFrame", what, b, m, err)
	}
}

func TestP5EachKindWrittenAndRead(t *testing.T) {
	for _, m := range allMessages(1, 7, 255, 256, 0x0102030405060708, 1<<63, math.MaxUint64) {
		b, err := shardcommit.EncodeMessage(m)
		if want := bytesOf(m); !bytes.Equal(b, want) || err != nil {
			t.Errorf("P5: EncodeMessage(%+v) = %x, %v, want %x", m, b, err, want)
		}
		if got, err := shardcommit.DecodeMessage(bytesOf(m)); got != m || err != nil {
			t.Errorf("P5: DecodeMessage(%x) = %+v, %v, want %+v", bytesOf(m), got, err, m)
		}
	}
}

func TestP5Example(t *testing.T) {
	m := api.Message{Kind: api.Prepare, From: 0, To: 3, Txn: 7}
	want := unhex(t, "01000300000000000000070de0c74a")
	if b, err := shardcommit.EncodeMessage(m); !bytes.Equal(b, want) || err != nil {
		t.Errorf("P5: the example: %x, %v, want %x", b, err, want)
	}
	if got, err := shardcommit.DecodeMessage(want); got != m || err != nil {
		t.Errorf("P5: the example: %+v, %v, want %+v", got, err, m)
	}
}

// numbers: those of nodes and kinds, and those that a byte would wrap onto them.
func numbers() []int {
	l := []int{math.MinInt, math.MinInt + 1, -1 << 32, -65535, -257, -256, -255, -248, 254, 255, 1 << 16, 1<<32 + 1, math.MaxInt}
	for n := -3; n <= 20; n++ {
		l = append(l, n)
	}
	for n := 256; n <= 266; n++ {
		l = append(l, n)
	}
	return l
}

func TestP5EncodeOfAnyNumbers(t *testing.T) {
	for _, kind := range numbers() {
		for _, from := range numbers() {
			for _, to := range numbers() {
				for _, txn := range []uint64{0, 1, math.MaxUint64} {
					checkEncode(t, api.Message{Kind: kind, From: from, To: to, Txn: txn})
				}
			}
		}
	}
}

func checkEncode(t *testing.T, m api.Message) {
	b, err := shardcommit.EncodeMessage(m)
	if isOne(m) {
		if !bytes.Equal(b, bytesOf(m)) || err != nil {
			t.Errorf("P5: EncodeMessage(%+v) = %x, %v", m, b, err)
		}
	} else if b != nil || err != api.ErrFrame {
		t.Errorf("P5: EncodeMessage(%+v) = %x, %v, want ErrFrame", m, b, err)
	}
}

func TestP5NoSuchMessage(t *testing.T) {
	for _, m := range []api.Message{
		{},
		{Kind: api.Prepare, From: 0, To: 1, Txn: 0},
		{Kind: api.Inquire, From: 8, To: 0, Txn: 0},
		{Kind: api.Commit, From: 1, To: 0, Txn: 1},
		{Kind: api.Ack, From: 0, To: 1, Txn: 1},
		{Kind: api.Abort, From: 0, To: 0, Txn: 1},
		{Kind: api.Yes, From: 0, To: 0, Txn: 1},
		{Kind: api.Abort, From: 2, To: 3, Txn: 1},
		{Kind: api.No, From: 2, To: 3, Txn: 1},
		{Kind: api.Prepare, From: 0, To: 9, Txn: 1},
		{Kind: api.ReadOnly, From: 9, To: 0, Txn: 1},
		{Kind: api.Prepare, From: 0, To: 257, Txn: 1},
		{Kind: api.Prepare, From: 256, To: 1, Txn: 1},
		{Kind: api.Yes, From: -1, To: 0, Txn: 1},
		{Kind: 0, From: 0, To: 1, Txn: 1},
		{Kind: 9, From: 1, To: 0, Txn: 1},
		{Kind: 257, From: 0, To: 1, Txn: 1},
		{Kind: -255, From: 0, To: 1, Txn: 1},
	} {
		if b, err := shardcommit.EncodeMessage(m); b != nil || err != api.ErrFrame {
			t.Errorf("P5: EncodeMessage(%+v) = %x, %v, want ErrFrame", m, b, err)
		}
	}
}

func TestP5RightSumOverWhatIsNoMessage(t *testing.T) {
	nodes := []byte{0, 1, 2, 7, 8, 9, 10, 127, 128, 255}
	for kind := range 256 {
		for _, from := range nodes {
			for _, to := range nodes {
				for _, txn := range []uint64{0, 1, math.MaxUint64} {
					m := api.Message{Kind: kind, From: int(from), To: int(to), Txn: txn}
					got, err := shardcommit.DecodeMessage(messageBytes(byte(kind), from, to, txn))
					if isOne(m) && (got != m || err != nil) || !isOne(m) && (got != api.Message{} || err != api.ErrFrame) {
						t.Errorf("P5: DecodeMessage of the bytes of %+v: %+v, %v", m, got, err)
					}
				}
			}
		}
	}
}

func TestP5TooFewAndTooManyBytes(t *testing.T) {
	checkNoMessage(t, "nil", nil)
	for _, m := range allMessages(1, math.MaxUint64) {
		b := bytesOf(m)
		for n := range b {
			checkNoMessage(t, "a beginning", b[:n])
			checkNoMessage(t, "an end", b[n+1:])
		}
		checkNoMessage(t, "a byte more", append(bytesOf(m), 0))
		checkNoMessage(t, "a byte ahead", append([]byte{0}, b...))
		checkNoMessage(t, "two messages", append(bytesOf(m), b...))
	}
	// Other lengths with the right sum at their end.
	for n := range 40 {
		if n != 11 {
			body := make([]byte, n)
			copy(body, []byte{1, 0, 3, 0, 0, 0, 0, 0, 0, 0, 7, 1, 1, 1})
			checkNoMessage(t, "another length with its right sum", withSum(body))
		}
	}
}

func TestP5Damaged(t *testing.T) {
	for _, m := range allMessages(1, 7, math.MaxUint64) {
		b := bytesOf(m)
		for i := range b {
			for bit := range 8 {
				b[i] ^= 1 << bit
				checkNoMessage(t, "a bit turned", b)
				b[i] ^= 1 << bit
			}
		}
	}
	sum := bytesOf(api.Message{Kind: 1, To: 3, Txn: 7})
	sum[11], sum[12], sum[13], sum[14] = sum[14], sum[13], sum[12], sum[11]
	checkNoMessage(t, "a sum with its lowest byte first", sum)
}

func TestP1DecodeOfAnyBytes(t *testing.T) {
	r := rand.New(rand.NewSource(2))
	for n := range 20000 {
		b := make([]byte, n%40)
		r.Read(b)
		checkNoMessage(t, "any bytes", b)
	}
}

func TestP2MessagesKeepAndWriteNothing(t *testing.T) {
	m := api.Message{Kind: api.Prepare, From: 0, To: 3, Txn: 7}
	whole := bytesOf(m)
	for n := 0; n <= len(whole); n++ {
		b := roomy(whole[:n])
		shardcommit.DecodeMessage(b)
		if !untouched(b, whole[:n]) {
			t.Errorf("P2: DecodeMessage wrote into its bytes: %x", b)
		}
	}
	first, _ := shardcommit.EncodeMessage(m)
	second, _ := shardcommit.EncodeMessage(m)
	scribble(first[:cap(first)])
	if !bytes.Equal(second, whole) {
		t.Errorf("P2: EncodeMessage's bytes are shared: %x", second)
	}
}

func TestP2MessagesAtTheSameTime(t *testing.T) {
	var wait sync.WaitGroup
	for _, m := range allMessages(1, 2) {
		wait.Go(func() {
			if b, err := shardcommit.EncodeMessage(m); !bytes.Equal(b, bytesOf(m)) || err != nil {
				t.Errorf("P5: EncodeMessage(%+v), at the same time: %x, %v", m, b, err)
			}
			if got, err := shardcommit.DecodeMessage(bytesOf(m)); got != m || err != nil {
				t.Errorf("P5: DecodeMessage of %+v, at the same time: %+v, %v", m, got, err)
			}
		})
	}
	wait.Wait()
}

func TestMessagesAskedFromOutside(t *testing.T) {
	m := api.Message{Kind: api.Inquire, From: 8, To: 0, Txn: 5}
	b, no := plain.EncodeMessage(m)
	if !bytes.Equal(b, bytesOf(m)) || no != api.OK {
		t.Errorf("P5: %x, %d", b, no)
	}
	if got, no := plain.DecodeMessage(b); got != m || no != api.OK {
		t.Errorf("P5: %+v, %d", got, no)
	}
	if got, no := plain.DecodeMessage(b[1:]); got != (api.Message{}) || no != api.ErrFrame {
		t.Errorf("P5: %+v, %d", got, no)
	}
	if b, no := plain.EncodeMessage(api.Message{}); b != nil || no != api.ErrFrame {
		t.Errorf("P5: %x, %d", b, no)
	}
}
