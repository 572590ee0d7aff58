package shardcommit_test

import (
	"fmt"
	"math/rand"
	"strconv"
	"strings"
	"testing"

	"shardcommit/api"
	"shardcommit/shardcommit"
)

// twin is a node, and beside it a coordinator or shard alone, over a disk to which the same happens. What the document says that the node does with its own is done with the other: both must answer the same.
type twin struct {
	t      *testing.T
	id     int
	d      *disk
	n      *shardcommit.Node
	others *disk
	other  any      // a shard or coordinator
	sends  []string // what the node is to send: by Receive and Tick
	last   uint64   // the highest id that is about
}

func newTwin(t *testing.T, id int) *twin {
	v := &twin{t: t, id: id, d: newDisk(), others: newDisk(), last: 6}
	v.open()
	return v
}

// open opens both anew; all is lost that can be.
func (v *twin) open() {
	v.t.Helper()
	v.n = again(v.t, openNode(v.id), v.d)
	if v.id == 0 {
		v.other = coordinatorAgain(v.t, v.others)
	} else {
		v.other = shardAgain(v.t, v.others)
	}
	v.sends = nil
}

// both are asked the same.
func (v *twin) both(words string) string {
	v.t.Helper()
	got, want := ask(v.n, words), ask(v.other, words)
	if got != want {
		v.t.Fatalf("%s: %s, want %s", words, got, want)
	}
	return got
}

// leadsTo: the call that a message leads to, by the document's words.
func leadsTo(kind string, shard int, txn string) string {
	switch kind {
	case "prepare", "commit", "abort":
		return kind + " " + txn
	case "inquire":
		return "answer " + txn
	case "ack":
		return fmt.Sprintf("done %s %d", txn, shard)
	}
	return fmt.Sprintf("vote %s %d %s", txn, shard, kind)
}

// receive: a message to this node, at the coordinator from that shard.
func (v *twin) receive(kind string, shard int, txn string) {
	v.t.Helper()
	want, sends := ask(v.other, leadsTo(kind, shard, txn)), ""
	_, noError := strconv.Atoi(want) // an error is told by its number
	switch {
	case noError != nil && (kind == "prepare" || kind == "inquire"):
		sends, want = want, "done"
	case noError != nil && kind == "commit":
		sends = "ack"
	}
	if got := ask(v.n, fmt.Sprintf("receive %s %d-%d %s", kind, shard, v.id, txn)); got != want {
		v.t.Fatalf("receive %s from %d about %s: %s, want %s", kind, shard, txn, got, want)
	}
	if sends != "" && sends != "nothing" {
		v.sends = append(v.sends, fmt.Sprintf("%s %d-%d %s", sends, v.id, shard, txn))
	}
}

func (v *twin) tick() {
	v.n.Tick()
	switch k := v.other.(type) {
	case *shardcommit.Coordinator:
		k.Tick()
	case *shardcommit.Shard:
		k.Tick()
		for _, txn := range k.Waiting() {
			v.sends = append(v.sends, fmt.Sprintf("inquire %d-0 %d", v.id, txn))
		}
	}
}

func (v *twin) send() {
	v.t.Helper()
	all := v.sends
	v.sends = nil
	if c, ok := v.other.(*shardcommit.Coordinator); ok {
		for _, due := range c.Out() {
			all = append(all, fmt.Sprintf("%s 0-%d %d", kindNames[due.What], due.Shard, due.Txn))
		}
	}
	want := "-"
	if all != nil {
		want = strings.Join(all, "; ")
	}
	if got := ask(v.n, "send"); got != want {
		v.t.Fatalf("it sends %s, want %s", got, want)
	}
}

// look: both are the same.
func (v *twin) look() {
	v.t.Helper()
	for txn := v.last - min(v.last, 12); txn < v.last+2; txn++ {
		if v.id == 0 {
			v.both(fmt.Sprintf("status %d", txn))
		} else {
			v.both(fmt.Sprintf("state %d", txn))
		}
	}
	if v.id == 0 {
		v.both("results")
		return
	}
	if got, want := pairsOf(v.t, v.n.Shard()), pairsOf(v.t, v.other.(*shardcommit.Shard)); fmt.Sprint(got) != fmt.Sprint(want) {
		v.t.Fatalf("it has %v, want %v", got, want)
	}
}

// step: any call.
func (v *twin) step(r *rand.Rand) {
	v.t.Helper()
	some := func(of ...string) string { return of[r.Intn(len(of))] }
	txn := strconv.FormatUint(1+v.last-min(v.last, uint64(r.Intn(9))), 10)
	shard := 1 + r.Intn(3)
	switch what := r.Intn(100); {
	case what < 12:
		v.tick()
	case what < 24:
		v.send()
	case what < 26:
		v.both("checkpoint")
	case what < 27:
		v.open()
	case what < 28:
		at := 1 + r.Intn(6)
		v.d.failing(at, api.ErrFull)
		v.others.failing(at, api.ErrFull)
	case v.id > 0 && what < 60:
		v.both(some("get ", "put ", "put ", "delete ") + txn + " " + some("0", "0", "1", "2", "3") + " " + some("a", "b", "c", "d") + " " + txn)
	case v.id > 0:
		v.receive(some("prepare", "prepare", "commit", "abort"), 0, txn)
	case what < 40:
		if id, err := strconv.ParseUint(v.both("begin"), 10, 64); err == nil && id > 10 { // (else it may be an error)
			v.last = id
		}
	case what < 55:
		v.both("commit " + txn + some(" 1", " 2", " 1 2", " 1 3", " 1 2 3"))
	case what < 57:
		v.both("abort " + txn)
	default:
		v.receive(some("yes", "yes", "yes", "yes", "readonly", "no", "ack", "ack", "inquire"), shard, txn)
	}
	v.look()
}

// P34, P35: a node does with its coordinator or shard what the document says, and nothing else.
func TestP34P35AsTheDocumentSays(t *testing.T) {
	for id := range 9 {
		t.Run(strconv.Itoa(id), func(t *testing.T) {
			t.Parallel()
			for seed := range int64(60) {
				v := newTwin(t, id)
				r := rand.New(rand.NewSource(seed*9 + int64(id)))
				for range 300 {
					v.step(r)
				}
			}
		})
	}
}
