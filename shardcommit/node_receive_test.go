package shardcommit_test

import (
	"fmt"
	"math"
	"math/rand"
	"slices"
	"testing"

	"shardcommit/api"
	"shardcommit/shardcommit"
)

// P34, at a shard: each kind, in each state of the transaction.
func TestP34AtAShard(t *testing.T) {
	ahead := map[string][]string{
		"none":      nil,
		"reading":   {"get 7 0 a: old"},
		"writing":   {"put 7 0 a x: done"},
		"deleting":  {"delete 7 0 a: done"},
		"doomed":    {"put 8 0 a y: done", "put 7 0 a x: 3"},
		"prepared":  {"put 7 0 a x: done", "prepare 7: yes"},
		"committed": {"put 7 0 a x: done", "prepare 7: yes", "commit 7: done"},
		"aborted":   {"put 7 0 a x: done", "prepare 7: yes", "abort 7: done"},
	}
	for _, c := range []struct{ state, kind, answer, sent, then, value string }{
		{"none", "prepare", "done", "no", "none", "old"},
		{"none", "commit", "done", "ack", "none", "old"},
		{"none", "abort", "done", "-", "none", "old"},
		{"reading", "prepare", "done", "readonly", "none", "old"},
		{"reading", "commit", "4", "-", "working", "old"},
		{"reading", "abort", "done", "-", "none", "old"},
		{"writing", "prepare", "done", "yes", "prepared", "old"},
		{"writing", "commit", "4", "-", "working", "old"},
		{"writing", "abort", "done", "-", "none", "old"},
		{"deleting", "prepare", "done", "yes", "prepared", "old"},
		{"doomed", "prepare", "done", "no", "none", "old"},
		{"doomed", "commit", "4", "-", "doomed", "old"},
		{"doomed", "abort", "done", "-", "none", "old"},
		{"prepared", "prepare", "done", "yes", "prepared", "old"},
		{"prepared", "commit", "done", "ack", "none", "x"},
		{"prepared", "abort", "done", "-", "none", "old"},
		{"committed", "prepare", "done", "no", "none", "x"},
		{"committed", "commit", "done", "ack", "none", "x"},
		{"committed", "abort", "done", "-", "none", "x"},
		{"aborted", "prepare", "done", "no", "none", "old"},
		{"aborted", "commit", "done", "ack", "none", "old"},
		{"aborted", "abort", "done", "-", "none", "old"},
	} {
		t.Run(c.state+" "+c.kind, func(t *testing.T) {
			for id := 1; id <= 8; id++ {
				n := nodeOver(t, newDisk(), id)
				wantAnswers(t, n, "put 1 0 a old: done", "prepare 1: yes", "commit 1: done")
				wantAnswers(t, n, ahead[c.state]...)
				sent := c.sent
				if sent != "-" {
					sent = fmt.Sprintf("%s %d-0 7", sent, id)
				}
				wantAnswers(t, n, "send: -", fmt.Sprintf("receive %s 0-%d 7: %s", c.kind, id, c.answer), "state 7: "+c.then, "send: "+sent, "send: -")
				if value, _ := n.Shard().Value("a"); value != c.value {
					t.Errorf("the value is %q, want %q", value, c.value)
				}
			}
		})
	}
}

// inState: rows by which 2 comes into a state at the coordinator, at the shards 1, 3 and 5.
var inState = map[string][]string{
	"none":      nil,
	"active":    {},
	"voting":    {"commit 2 1 3 5: done"},
	"one left":  {"commit 2 1 3 5: done", "vote 2 3 yes: done", "vote 2 5 readonly: done"},
	"reading":   {"commit 2 1 3 5: done", "vote 2 3 readonly: done", "vote 2 5 readonly: done"},
	"committed": {"commit 2 1 3 5: done", "vote 2 1 yes: done", "vote 2 3 yes: done", "vote 2 5 readonly: done"},
	"one to do": {"commit 2 1 3 5: done", "vote 2 1 yes: done", "vote 2 3 yes: done", "vote 2 5 readonly: done", "done 2 3: done"},
	"aborted":   {"commit 2 1 3 5: done", "vote 2 3 no: done"},
}

// P34, at the coordinator: each kind, in each state of the transaction.
func TestP34AtTheCoordinator(t *testing.T) {
	for _, c := range []struct{ state, message, sent, then, results string }{
		{"none", "yes 1", "-", "none", "-"},
		{"none", "no 1", "-", "none", "-"},
		{"none", "readonly 1", "-", "none", "-"},
		{"none", "ack 1", "-", "none", "-"},
		{"none", "inquire 1", "abort 0-1 2", "none", "-"},
		{"none", "inquire 8", "abort 0-8 2", "none", "-"},
		{"active", "yes 1", "-", "active", "-"},
		{"active", "no 1", "-", "active", "-"},
		{"active", "readonly 1", "-", "active", "-"},
		{"active", "ack 1", "-", "active", "-"},
		{"active", "inquire 1", "-", "active", "-"},
		{"voting", "yes 1", "-", "voting", "-"},
		{"voting", "no 1", "abort 0-3 2; abort 0-5 2", "none", "2 abort"},
		{"voting", "no 5", "abort 0-1 2; abort 0-3 2", "none", "2 abort"},
		{"voting", "no 2", "-", "voting", "-"},
		{"voting", "readonly 1", "-", "voting", "-"},
		{"voting", "ack 1", "-", "voting", "-"},
		{"voting", "inquire 1", "-", "voting", "-"},
		{"one left", "yes 1", "commit 0-1 2; commit 0-3 2", "committed", "2 commit"},
		{"one left", "readonly 1", "commit 0-3 2", "committed", "2 commit"},
		{"one left", "no 1", "abort 0-3 2", "none", "2 abort"},
		{"one left", "no 3", "-", "voting", "-"},
		{"one left", "yes 4", "-", "voting", "-"},
		{"one left", "inquire 3", "-", "voting", "-"},
		{"reading", "readonly 1", "-", "none", "2 commit"},
		{"reading", "yes 1", "commit 0-1 2", "committed", "2 commit"},
		{"reading", "no 1", "-", "none", "2 abort"},
		{"committed", "yes 1", "-", "committed", "-"},
		{"committed", "no 1", "-", "committed", "-"},
		{"committed", "readonly 5", "-", "committed", "-"},
		{"committed", "ack 1", "-", "committed", "-"},
		{"committed", "ack 5", "-", "committed", "-"},
		{"committed", "inquire 1", "commit 0-1 2", "committed", "-"},
		{"committed", "inquire 5", "commit 0-5 2", "committed", "-"},
		{"one to do", "ack 3", "-", "committed", "-"},
		{"one to do", "ack 5", "-", "committed", "-"},
		{"one to do", "ack 2", "-", "committed", "-"},
		{"one to do", "ack 1", "-", "none", "-"},
		{"one to do", "inquire 3", "commit 0-3 2", "committed", "-"},
		{"aborted", "yes 1", "-", "none", "-"},
		{"aborted", "ack 1", "-", "none", "-"},
		{"aborted", "inquire 1", "abort 0-1 2", "none", "-"},
	} {
		t.Run(c.state+" "+c.message, func(t *testing.T) {
			n := nodeOver(t, newDisk(), 0)
			wantAnswers(t, n, "begin: 1")
			if c.state != "none" {
				wantAnswers(t, n, "begin: 2")
			}
			wantAnswers(t, n, inState[c.state]...)
			n.Send()
			n.Coordinator().Results()
			wantAnswers(t, n, "receive "+c.message+"-0 2: done", "status 2: "+c.then, "results: "+c.results, "send: "+c.sent, "send: -", "status 1: active")
		})
	}
}

// P34: the error of the shard, which is the disk's, is Receive's; nothing is to be sent then but what was to be sent ahead of it.
func TestP34ErrorsAtAShard(t *testing.T) {
	for _, kind := range []string{"prepare 0-3 7", "commit 0-3 8", "abort 0-3 8"} {
		for _, says := range []error{errBroken, api.ErrFull, api.ErrDown} {
			d := newDisk()
			n := nodeOver(t, d, 3)
			wantAnswers(t, n, "put 7 0 a x: done", "put 8 0 b y: done", "receive prepare 0-3 8: done", "put 9 0 c z: done", "get 10 0 d: -")
			d.failing(1, says)
			for range 3 {
				if err := n.Receive(messageIn(kind)); err != says {
					t.Fatalf("%s: %v, want %v", kind, err, says)
				}
			}
			why := orError("", says)
			wantAnswers(t, n, "state 7: working", "state 8: prepared", "send: yes 3-0 8", "send: -",
				"receive commit 0-3 8: "+why, "receive abort 0-3 8: "+why, "receive prepare 0-3 9: "+why, "send: -",
				// all others are as ever
				"receive prepare 0-3 8: done", "receive prepare 0-3 10: done", "receive commit 0-3 7: 4", "receive abort 0-3 7: done", "receive commit 0-3 7: done", "receive prepare 0-3 7: done",
				"send: yes 3-0 8; readonly 3-0 10; ack 3-0 7; no 3-0 7",
				"ticks 1: done", "send: inquire 3-0 8")
			wantShard(t, n.Shard(), "", 8)
		}
	}
}

// P34: the same at the coordinator; of one in doubt nothing is told to whoever asks.
func TestP34ErrorsAtTheCoordinator(t *testing.T) {
	for _, says := range []error{errBroken, api.ErrFull, api.ErrDown} {
		why := orError("", says)
		for _, failing := range []string{"yes 3-0 2", "readonly 3-0 2", "ack 1-0 1"} {
			d := newDisk()
			n := nodeOver(t, d, 0)
			wantAnswers(t, n, "begin: 1", "begin: 2", "begin: 3", "commit 1 1: done", "receive yes 1-0 1: done", "commit 2 1 3: done", "receive yes 1-0 2: done", "commit 3 4 5: done", "receive inquire 8-0 9: done", "results: 1 commit")
			d.failing(1, says)
			for range 2 {
				if err := n.Receive(messageIn(failing)); err != says {
					t.Fatalf("%s: %v, want %v", failing, err, says)
				}
			}
			wantAnswers(t, n, "results: -", "send: abort 0-8 9; prepare 0-1 1; commit 0-1 1; prepare 0-1 2; prepare 0-3 2; prepare 0-4 3; prepare 0-5 3", "send: -",
				"receive ack 1-0 1: "+why, "receive yes 3-0 2: "+why, "receive no 3-0 2: "+why, "receive readonly 3-0 2: "+why, "send: -",
				// all others are as ever
				"receive yes 1-0 2: done", "receive inquire 3-0 2: done", "send: -", "status 2: voting", "status 1: committed",
				"receive inquire 1-0 1: done", "receive no 4-0 3: done", "results: 3 abort", "send: commit 0-1 1; abort 0-5 3",
				"ticks 1: done", "send: commit 0-1 1")
		}
	}
}

// busyNode: a node with transactions of which messages would turn something.
func busyNode(t *testing.T, d *disk, id int) *shardcommit.Node {
	t.Helper()
	n := nodeOver(t, d, id)
	if id == 0 {
		wantAnswers(t, n, "begin: 1", "begin: 2", "commit 1 1 2 3 4 5 6 7 8: done", "commit 2 4: done", "vote 2 4 yes: done", "results: 2 commit")
		n.Send()
	} else {
		wantAnswers(t, n, "put 1 0 a x: done", "prepare 1: yes", "put 2 0 b y: done")
	}
	return n
}

// wantBusy: nothing turned.
func wantBusy(t *testing.T, n *shardcommit.Node) {
	t.Helper()
	if n.Coordinator() != nil {
		wantAnswers(t, n, "send: -", "results: -", "status 1: voting", "status 2: committed")
	} else {
		wantAnswers(t, n, "send: -", "state 1: prepared", "state 2: working")
	}
}

// P34: what is for another node turns nothing. What is no message says so, whomever it were for; both also if the disk failed.
func TestP34NotForThisNode(t *testing.T) {
	for id := range 9 {
		d := newDisk()
		n := busyNode(t, d, id)
		for range 2 {
			calls := d.calls
			for _, m := range allMessages(1, 2, math.MaxUint64) {
				if m.To == id {
					continue
				}
				if err := n.Receive(bytesOf(m)); err != api.ErrShard {
					t.Fatalf("node %d: Receive of %+v = %v", id, m, err)
				}
				damaged := bytesOf(m)
				damaged[13]++
				if err := n.Receive(damaged); err != api.ErrFrame {
					t.Fatalf("node %d: Receive of %+v, damaged = %v", id, m, err)
				}
			}
			wantBusy(t, n)
			if d.calls != calls {
				t.Errorf("node %d calls the disk", id)
			}
			d.failing(1, errBroken)
			wantAnswers(t, n, "checkpoint: broken")
		}
	}
}

// P34, P1: bytes of all kinds that are no message.
func TestP34NoMessage(t *testing.T) {
	r := rand.New(rand.NewSource(34))
	for id := range 9 {
		d := newDisk()
		n := busyNode(t, d, id)
		var wrong [][]byte
		for _, m := range allMessages(1, 2) {
			if m.To != id || m.From > 3 {
				continue
			}
			b := bytesOf(m)
			for bit := range 8 * len(b) {
				turned := slices.Clone(b)
				turned[bit/8] ^= 1 << (bit % 8)
				wrong = append(wrong, turned)
			}
			for size := range len(b) {
				wrong = append(wrong, b[:size], b[size+1:])
			}
			wrong = append(wrong, append(slices.Clone(b), 0), append(slices.Clone(b), b...))
			// a right sum over what is no message
			back := m
			back.From, back.To = m.To, m.From
			wrong = append(wrong, bytesOf(back), messageBytes(byte(m.Kind), byte(m.From), byte(m.To), 0), messageBytes(0, byte(m.From), byte(m.To), 1), messageBytes(9, byte(m.From), byte(m.To), 1), messageBytes(byte(m.Kind), byte(m.To), byte(m.To), 1), messageBytes(byte(m.Kind), 9, byte(m.To), 1))
		}
		wrong = append(wrong, nil, []byte{}, make([]byte, 15), make([]byte, 1<<20))
		for range 2000 {
			b := make([]byte, r.Intn(40))
			r.Read(b)
			wrong = append(wrong, b)
		}
		calls := d.calls
		for _, b := range wrong {
			if err := n.Receive(b); err != api.ErrFrame {
				t.Fatalf("node %d: Receive of %x = %v", id, b, err)
			}
		}
		wantBusy(t, n)
		if d.calls != calls {
			t.Errorf("node %d calls the disk", id)
		}
	}
}

// P34, P2: the bytes are read, not kept and not written into.
func TestP2BytesAreHandedIn(t *testing.T) {
	n := nodeOver(t, newDisk(), 4)
	wantAnswers(t, n, "put 7 0 a x: done")
	for _, words := range []string{"prepare 0-4 7", "prepare 0-4 8", "commit 0-4 9", "abort 0-4 6", "prepare 0-5 7", "nothing 0-4 7"} {
		b := roomy(messageIn(words))
		_ = n.Receive(b)
		if !untouched(b, messageIn(words)) {
			t.Errorf("Receive writes into %s", words)
		}
		scribble(b[:cap(b)])
	}
	wantAnswers(t, n, "send: yes 4-0 7; no 4-0 8; ack 4-0 9")
}
