package shardcommit_test

import (
	"encoding/binary"
	"errors"
	"fmt"
	"math"
	"slices"
	"strconv"
	"strings"
	"sync"
	"testing"

	"shardcommit/api"
	"shardcommit/shardcommit"
)

// openNode: OpenNode, for nodes of one number.
func openNode(id int) func(d api.Disk) (*shardcommit.Node, error) {
	return func(d api.Disk) (*shardcommit.Node, error) { return shardcommit.OpenNode(d, id) }
}

func nodeOver(t *testing.T, d api.Disk, id int) *shardcommit.Node {
	t.Helper()
	return opened(t, openNode(id), d)
}

// messageIn: "prepare 0-3 7" as bytes.
func messageIn(words string) []byte {
	w := append(strings.Fields(words), "", "")
	from, to, _ := strings.Cut(w[1], "-")
	sender, _ := strconv.Atoi(from)
	receiver, _ := strconv.Atoi(to)
	txn, _ := strconv.ParseUint(w[2], 10, 64)
	return messageBytes(byte(slices.Index(kindNames, w[0])), byte(sender), byte(receiver), txn)
}

// messageTold: bytes as "prepare 0-3 7".
func messageTold(b []byte) string {
	if len(b) != 15 || string(withSum(slices.Clone(b[:11]))) != string(b) || b[0] == 0 || b[0] > 8 {
		return fmt.Sprintf("no message: %x", b)
	}
	return fmt.Sprintf("%s %d-%d %d", kindNames[b[0]], b[1], b[2], binary.BigEndian.Uint64(b[3:]))
}

// messagesTold: "yes 1-0 7; ack 1-0 8"; "-": none.
func messagesTold(messages [][]byte) string {
	if messages == nil {
		return "-"
	}
	var all []string
	for _, b := range messages {
		all = append(all, messageTold(b))
	}
	return strings.Join(all, "; ")
}

// askNode calls a node, by words ("receive prepare 0-1 7", "send", "ticks 3"); all other words are for its coordinator or shard.
func askNode(n *shardcommit.Node, words string) string {
	call, rest, _ := strings.Cut(words, " ")
	switch call {
	case "receive":
		return orError("done", n.Receive(messageIn(rest)))
	case "send":
		return messagesTold(n.Send())
	case "ticks":
		ticks, _ := strconv.Atoi(rest)
		for range ticks {
			n.Tick()
		}
		return "done"
	}
	if n.Coordinator() != nil {
		return askCoordinator(n.Coordinator(), words)
	}
	return askShard(n.Shard(), words)
}

// P33: which numbers there are, and what a node of each has.
func TestP33OpenNode(t *testing.T) {
	for _, id := range []int{math.MinInt, -256, -9, -8, -2, -1, 9, 10, 16, 256, 257, 1 << 32, 1<<32 + 1, math.MaxInt} {
		d := newDisk()
		if n, err := shardcommit.OpenNode(d, id); n != nil || err != api.ErrShard || d.calls > 0 {
			t.Errorf("OpenNode(%d) = %v, %v; the disk is called %d times", id, n != nil, err, d.calls)
		}
	}
	for id := range 9 {
		d := newDisk()
		for range 3 {
			n := nodeOver(t, d, id)
			c, s := n.Coordinator(), n.Shard()
			if (c != nil) != (id == 0) || (s != nil) != (id > 0) {
				t.Errorf("node %d: the coordinator: %v, a shard: %v", id, c != nil, s != nil)
			}
			if n.Coordinator() != c || n.Shard() != s {
				t.Errorf("node %d has another one each time", id)
			}
			wantAnswers(t, n, "send: -", "ticks 20: done", "send: -")
			d.lose(loseAll)
		}
	}
}

// P33: ErrShard is named ahead of what the disk says; without a disk it is what the coordinator or shard says.
func TestP33OrderOfErrors(t *testing.T) {
	for id, want := range map[int]error{-1: api.ErrShard, 9: api.ErrShard, 0: api.ErrDown, 1: api.ErrDown, 8: api.ErrDown} {
		if n, err := shardcommit.OpenNode(nil, id); n != nil || err != want {
			t.Errorf("OpenNode(nil, %d) = %v, %v, want %v", id, n != nil, err, want)
		}
	}
	for id, want := range map[int]error{-1: api.ErrShard, 9: api.ErrShard, 0: errBroken, 1: errBroken, 8: errBroken} {
		d := newDisk()
		d.asksAt, d.says = 1, errBroken
		if n, err := shardcommit.OpenNode(d, id); n != nil || err != want {
			t.Errorf("OpenNode(%d) = %v, %v, want %v", id, n != nil, err, want)
		}
	}
}

// leftByCoordinator: a disk with what a coordinator left: 1 is committed at 2 and 5, of which 5 is done; 2 was voting.
func leftByCoordinator(t *testing.T) *disk {
	d := newDisk()
	c := coordinatorOver(t, d)
	wantAnswers(t, c, "begin: 1", "begin: 2", "commit 1 2 5: done", "vote 1 2 yes: done", "vote 1 5 yes: done", "done 1 5: done", "commit 2 1: done")
	for range 20 { // so that files are there to be removed
		txn := ask(c, "begin")
		wantAnswers(t, c, "commit "+txn+" 7: done", "vote "+txn+" 7 yes: done", "done "+txn+" 7: done")
	}
	d.failing(10, errBroken) // the mark is set, and the files below it are there still
	wantAnswers(t, c, "checkpoint: broken")
	return d
}

// leftByShard: a disk with what a shard left: a has a value, 5 is prepared, 6 worked.
func leftByShard(t *testing.T) *disk {
	d := newDisk()
	s := shardOver(t, d)
	for i := range 20 {
		wantAnswers(t, s, fmt.Sprintf("put 1 0 a %d: done", i), "prepare 1: yes", "commit 1: done")
	}
	wantAnswers(t, s, "put 5 0 b y: done", "prepare 5: yes", "put 6 0 c z: done")
	d.failing(10, errBroken)
	wantAnswers(t, s, "checkpoint: broken")
	return d
}

// P33: the node has what the disk has; if the disk says an error at that, it is the node's, and nothing is opened.
func TestP33OverWhatAnotherLeft(t *testing.T) {
	failsToOpen(t, func() *disk { return leftByCoordinator(t) }, openNode(0), func(n *shardcommit.Node) {
		wantAnswers(t, n, "status 1: committed", "status 2: none", "send: -", "ticks 1: done", "send: commit 0-2 1; commit 0-5 1")
	})
	for id := 1; id <= 8; id++ {
		failsToOpen(t, func() *disk { return leftByShard(t) }, openNode(id), func(n *shardcommit.Node) {
			wantShard(t, n.Shard(), "a=19", 5)
			wantAnswers(t, n, "state 6: none", "send: -", "ticks 1: done", fmt.Sprintf("send: inquire %d-0 5", id))
		})
	}
}

// P35: a shard asks about each that waits, the lowest first, at each Tick; about no other.
func TestP35TickOfAShard(t *testing.T) {
	n := nodeOver(t, newDisk(), 6)
	wantAnswers(t, n, "ticks 2: done", "send: -",
		"put 9 0 a x: done", "get 4 0 b: -", "put 5 0 a y: 3", "ticks 1: done", "send: -",
		"receive prepare 0-6 9: done", "send: yes 6-0 9", "ticks 1: done", "send: inquire 6-0 9", "ticks 2: done", "send: inquire 6-0 9; inquire 6-0 9",
		"put 300 0 c x: done", "put 7 0 d x: done", "put 18446744073709551615 0 e x: done",
		"prepare 300: yes", "prepare 18446744073709551615: yes", "prepare 7: yes", "send: -",
		"ticks 1: done", "send: inquire 6-0 7; inquire 6-0 9; inquire 6-0 300; inquire 6-0 18446744073709551615",
		"receive commit 0-6 9: done", "receive abort 0-6 300: done", "ticks 1: done", "send: ack 6-0 9; inquire 6-0 7; inquire 6-0 18446744073709551615",
		"commit 7: done", "abort 18446744073709551615: done", "ticks 1: done", "send: -")
}

// P35: the Tick is the shard's: what nobody goes on with is dropped at the sixteenth.
func TestP35TickDropsWork(t *testing.T) {
	n := nodeOver(t, newDisk(), 1)
	wantAnswers(t, n, "put 1 0 a x: done", "put 2 0 b x: done", "prepare 2: yes", "ticks 15: done", "state 1: working", "ticks 1: done", "state 1: none", "state 2: prepared", "ticks 40: done", "state 2: prepared")
}

// P35: the Tick is the coordinator's: by ids, up to the eighth.
func TestP35TickOfTheCoordinator(t *testing.T) {
	n := nodeOver(t, newDisk(), 0)
	wantAnswers(t, n, "ticks 3: done", "send: -", "begin: 1", "begin: 2", "begin: 3", "ticks 1: done", "send: -",
		"commit 3 2: done", "receive yes 2-0 3: done", "commit 2 5 6: done", "commit 1 1 8: done", "send: prepare 0-2 3; commit 0-2 3; prepare 0-5 2; prepare 0-6 2; prepare 0-1 1; prepare 0-8 1",
		"ticks 1: done", "send: prepare 0-1 1; prepare 0-8 1; prepare 0-5 2; prepare 0-6 2; commit 0-2 3",
		"receive yes 8-0 1: done", "receive readonly 5-0 2: done", "ticks 2: done", "send: prepare 0-1 1; prepare 0-6 2; commit 0-2 3; prepare 0-1 1; prepare 0-6 2; commit 0-2 3",
		"ticks 4: done", "results: 3 commit", "status 1: voting", "ticks 1: done", "results: 1 abort; 2 abort")
	sent := n.Send()
	if got, want := messagesTold(sent[len(sent)-4:]), "abort 0-1 1; abort 0-8 1; abort 0-6 2; commit 0-2 3"; got != want {
		t.Errorf("%s, want %s", got, want)
	}
	wantAnswers(t, n, "receive ack 2-0 3: done", "ticks 9: done", "send: -")
}

// P35: what Receive and Tick have to send comes ahead of what Out has, each in its order.
func TestP35OrderOfSend(t *testing.T) {
	n := nodeOver(t, newDisk(), 0)
	wantAnswers(t, n, "begin: 1", "begin: 2", "commit 1 1 2: done", "receive inquire 5-0 9: done", "receive yes 2-0 1: done", "receive inquire 3-0 1: done", "receive yes 1-0 1: done", "receive inquire 2-0 1: done", "ticks 1: done", "commit 2 4: done", "receive inquire 7-0 8: done",
		"send: abort 0-5 9; commit 0-2 1; abort 0-7 8; prepare 0-1 1; prepare 0-2 1; commit 0-1 1; commit 0-2 1; commit 0-1 1; commit 0-2 1; prepare 0-4 2", "send: -",
		"ticks 1: done", "receive inquire 1-0 1: done", "send: commit 0-1 1; commit 0-1 1; commit 0-2 1; prepare 0-4 2", "send: -")
	// what was fetched by Out is not Send's any more
	wantAnswers(t, n, "receive inquire 1-0 1: done", "abort 2: done", "out: 2 abort 4", "out: -", "send: commit 0-1 1", "send: -")
	n = nodeOver(t, newDisk(), 2)
	wantAnswers(t, n, "put 1 0 a x: done", "put 2 0 b x: done", "receive prepare 0-2 2: done", "ticks 1: done", "receive prepare 0-2 1: done", "receive commit 0-2 3: done", "ticks 1: done", "receive prepare 0-2 3: done",
		"send: yes 2-0 2; inquire 2-0 2; yes 2-0 1; ack 2-0 3; inquire 2-0 1; inquire 2-0 2; no 2-0 3", "send: -")
}

// P35, P2: the lists and messages that come out are new, and the caller's.
func TestP2MessagesThatAreSent(t *testing.T) {
	for _, n := range []*shardcommit.Node{nodeOver(t, newDisk(), 0), nodeOver(t, newDisk(), 1)} {
		var want [2]string
		var lists [2][][]byte
		for i := range lists {
			if n.Coordinator() != nil {
				txn := ask(n, "begin")
				wantAnswers(t, n, "commit "+txn+" 1 2 3: done", "receive inquire 4-0 99: done", "ticks 1: done")
			} else {
				wantAnswers(t, n, fmt.Sprintf("put %d 0 k%d x: done", i+1, i), fmt.Sprintf("receive prepare 0-1 %d: done", i+1), "receive commit 0-1 99: done", "ticks 1: done")
			}
			lists[i] = n.Send()
			want[i] = messagesTold(lists[i])
			wantAnswers(t, n, "send: -")
		}
		for i := range lists {
			if got := messagesTold(lists[i]); got != want[i] || len(lists[i]) < 3 {
				t.Errorf("list %d is %s, was %s", i, got, want[i])
			}
			for j, b := range lists[i] {
				scribble(b[:cap(b)])
				if j+1 < len(lists[i]) && strings.Contains(messageTold(lists[i][j+1]), "no message") {
					t.Errorf("message %d is written into with the one ahead of it", j+1)
				}
			}
			clear(lists[i][:cap(lists[i])])
		}
		wantAnswers(t, n, "ticks 1: done")
		if got := ask(n, "send"); got == "-" || strings.Contains(got, "no message") {
			t.Errorf("then it sends %s", got)
		}
	}
}

// One that was never opened: nothing panics.
func TestP1ANodeThatWasNeverOpened(t *testing.T) {
	var n shardcommit.Node
	if n.Coordinator() != nil || n.Shard() != nil {
		t.Errorf("it has a coordinator or shard")
	}
	wantAnswers(t, &n, "receive nothing 0-0 1: 2", "receive prepare 0-1 1: 6", "receive yes 1-0 1: 10", "receive inquire 1-0 1: 10", "ticks 3: done", "send: -")
}

// The document's example over nodes.
func TestExampleOverNodes(t *testing.T) {
	var nodes []*shardcommit.Node
	for id := range 4 {
		nodes = append(nodes, nodeOver(t, newDisk(), id))
	}
	wantAnswers(t, nodes[0], "begin: 1", "commit 1 1 2 3: done")
	wantAnswers(t, nodes[1], "put 1 0 a x: done")
	wantAnswers(t, nodes[2], "get 1 0 a: -")
	wantAnswers(t, nodes[3], "delete 1 0 a: done")
	for _, row := range []string{
		"0: prepare 0-1 1; prepare 0-2 1; prepare 0-3 1", "1: yes 1-0 1", "2: readonly 2-0 1", "3: yes 3-0 1",
		"0: commit 0-1 1; commit 0-3 1", "1: ack 1-0 1", "2: -", "3: ack 3-0 1", "0: -",
	} {
		id := int(row[0] - '0')
		sent := nodes[id].Send()
		if got := messagesTold(sent); got != row[3:] {
			t.Fatalf("node %d sends %s, want %s", id, got, row[3:])
		}
		for _, b := range sent {
			if err := nodes[b[2]].Receive(b); err != nil {
				t.Fatalf("%s: %v", messageTold(b), err)
			}
		}
	}
	wantAnswers(t, nodes[0], "results: 1 commit", "status 1: none")
	wantShard(t, nodes[1].Shard(), "a=x")
}

// P2: nodes over different disks know nothing of one another.
func TestP2NodesAtTheSameTime(t *testing.T) {
	var wait sync.WaitGroup
	var errs [8]error
	for i := range errs {
		wait.Go(func() { errs[i] = liveAlone(1 + i) })
	}
	wait.Wait()
	for i, err := range errs {
		if err != nil {
			t.Errorf("nodes 0 and %d: %v", 1+i, err)
		}
	}
}

// liveAlone: a coordinator and one shard, and some transactions.
func liveAlone(id int) error {
	c, err := shardcommit.OpenNode(newDisk(), 0)
	s, why := shardcommit.OpenNode(newDisk(), id)
	if err = errors.Join(err, why); err != nil {
		return err
	}
	for range 40 {
		txn, why := c.Coordinator().Begin()
		err = errors.Join(err, why, s.Shard().Put(txn, 0, "k", strconv.Itoa(int(txn))), c.Coordinator().Commit(txn, []int{id}))
		for range 4 {
			for _, b := range c.Send() {
				err = errors.Join(err, s.Receive(b))
			}
			for _, b := range s.Send() {
				err = errors.Join(err, c.Receive(b))
			}
		}
		c.Tick()
		s.Tick()
		if value, _ := s.Shard().Value("k"); value != strconv.Itoa(int(txn)) || c.Coordinator().Status(txn) != api.None {
			err = errors.Join(err, errBroken)
		}
	}
	return err
}
