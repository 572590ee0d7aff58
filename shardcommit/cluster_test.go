package shardcommit_test

import (
	"fmt"
	"maps"
	"slices"
	"strings"
	"testing"

	"shardcommit/api"
	"shardcommit/shardcommit"
)

// cluster is nodes over disks that fail, messages that are under way between them, and clients; and what must hold of all that.
type cluster struct {
	t        *testing.T
	disks    []*disk
	nodes    []*shardcommit.Node // nil: it fell, and is not open again
	failed   []bool              // the disk said an error to the node
	underway [][]byte
	work     []*work // by ids
	order    []*work // those that were committed, in the order in which they were
	keys     int     // how many the clients choose from
	doubts   int     // how many were known as committed only when the coordinator was opened anew
	story    []string
}

// work is a transaction: what its client did, and what became of it.
type work struct {
	txn   uint64
	done  [9]int               // operations, by shards
	wrote [9]map[string]string // by shards: what each key is to have; "": nothing
	wrong bool                 // an operation went wrong
	asked bool                 // the client asked for Commit, and was not refused
	ended bool                 // the client has nothing more to do
	fate  int                  // Commit, Abort; 0: not decided
}

// newCluster: the coordinator and so many shards, all open.
func newCluster(t *testing.T, shards int) *cluster {
	c := &cluster{t: t, disks: newDisks(1 + shards), nodes: make([]*shardcommit.Node, 1+shards), failed: make([]bool, 1+shards)}
	for id := range c.nodes {
		c.disks[id].halves = true
		c.open(id)
	}
	return c
}

func (c *cluster) tell(format string, args ...any) {
	c.story = append(c.story, fmt.Sprintf(format, args...))
}

// fatal ends the test, and tells how it came to that.
func (c *cluster) fatal(format string, args ...any) {
	c.t.Fatalf("%s\n%s", strings.Join(c.story[max(0, len(c.story)-150):], "\n"), fmt.Sprintf(format, args...))
}

// said: a call of a node said this. Was it done? The only errors that may be are those of a disk, and these.
func (c *cluster) said(id int, err error, may ...error) bool {
	if err == nil || slices.Contains(may, err) {
		return err == nil
	}
	if !disks(err) {
		c.fatal("node %d says %v", id, err)
	}
	c.tell("node %d: the disk says %v", id, err)
	c.failed[id] = true
	return false
}

// open opens a node over what its disk has; if the disk says an error at that it stays where it is.
func (c *cluster) open(id int) {
	n, err := shardcommit.OpenNode(c.disks[id], id)
	c.opened(id, n, err)
}

func (c *cluster) opened(id int, n *shardcommit.Node, err error) {
	c.tell("node %d is opened: %v", id, err)
	if (n == nil) != (err != nil) {
		c.fatal("opened: %v, %v", n != nil, err)
	}
	c.nodes[id] = n
	c.failed[id] = false
	if !c.said(id, err) {
		return
	}
	if id == 0 {
		c.recovered()
	}
	c.look(id)
}

// recovered: what was not decided when the coordinator fell is, now that another is open: it is known as committed, or is aborted.
func (c *cluster) recovered() {
	k, found := c.nodes[0].Coordinator(), 0
	for _, w := range c.work {
		switch status := k.Status(w.txn); {
		case w.fate != 0:
		case status == api.Committed:
			found++
			c.became(w, api.Commit)
		case status == api.None:
			c.became(w, api.Abort)
		}
	}
	if c.doubts += found; found > 1 {
		c.fatal("%d that were not committed are now", found)
	}
}

// became: what becomes of a transaction it becomes once.
func (c *cluster) became(w *work, what int) {
	c.tell("%d: %s", w.txn, kindNames[what])
	if w.fate != 0 || what == api.Commit && (w.wrong || !w.asked) {
		c.fatal("%d: %s; it was %s, wrong %v, asked %v", w.txn, kindNames[what], kindNames[w.fate], w.wrong, w.asked)
	}
	w.fate = what
	if what == api.Commit {
		c.order = append(c.order, w)
	}
}

// heard: results of the coordinator.
func (c *cluster) heard() {
	for _, r := range c.nodes[0].Coordinator().Results() {
		at := slices.IndexFunc(c.work, func(w *work) bool { return w.txn == r.Txn })
		if at < 0 {
			c.fatal("a result of %d, which nobody began", r.Txn)
		}
		c.became(c.work[at], r.What)
	}
}

// look: a node is what it must be by what became of the transactions.
func (c *cluster) look(id int) {
	switch n := c.nodes[id]; {
	case n == nil:
	case id == 0:
		c.heard()
		for _, w := range c.work {
			c.lookAtStatus(w, n.Coordinator().Status(w.txn))
		}
	default:
		c.lookAtValues(id, n.Shard())
	}
}

func (c *cluster) lookAtStatus(w *work, status int) {
	fits := map[int][]int{0: {api.Active, api.Voting}, api.Commit: {api.Committed, api.None}, api.Abort: {api.None}}[w.fate]
	if !slices.Contains(fits, status) {
		c.fatal("%d: the status is %d, and it is %s", w.txn, status, kindNames[w.fate])
	}
	for id, n := range c.nodes[1:] {
		if status == api.None && w.fate == api.Commit && n != nil && n.Shard().State(w.txn) != api.None {
			c.fatal("%d: the coordinator does not know it any more, and node %d does", w.txn, 1+id)
		}
	}
}

// lookAtValues: a shard has what the committed ones wrote, in their order, but for those that wait there to be told; and nothing else.
func (c *cluster) lookAtValues(id int, s *shardcommit.Shard) {
	want := map[string]string{}
	for _, w := range c.order {
		switch state := s.State(w.txn); {
		case state == api.None:
			maps.Copy(want, w.wrote[id])
		case state != api.Prepared || w.wrote[id] == nil:
			c.fatal("%d is committed: at node %d the state is %d", w.txn, id, state)
		}
	}
	maps.DeleteFunc(want, func(_ string, value string) bool { return value == "" })
	if got := valuesOf(s); !maps.Equal(got, want) {
		c.fatal("node %d has %v, want %v", id, got, want)
	}
}

// begin: a client begins a transaction; nil: it cannot.
func (c *cluster) begin() *work {
	if c.nodes[0] == nil {
		return nil
	}
	txn, err := c.nodes[0].Coordinator().Begin()
	if !c.said(0, err, api.ErrMany) {
		return nil
	}
	c.tell("%d begins", txn)
	if len(c.work) > 0 && txn <= c.work[len(c.work)-1].txn {
		c.fatal("%d is begun behind %d", txn, c.work[len(c.work)-1].txn)
	}
	w := &work{txn: txn}
	c.work = append(c.work, w)
	c.look(0)
	return w
}

// operate: the client's next operation at a shard. If it goes wrong, the client does not ask for Commit.
func (c *cluster) operate(w *work, id int, kind, key string) {
	n := c.nodes[id]
	if n == nil {
		w.wrong = true
		return
	}
	value := ""
	var err error
	switch kind {
	case "get":
		_, _, err = n.Shard().Get(w.txn, w.done[id], key)
	case "put":
		value = fmt.Sprintf("%d.%d.%d", w.txn, id, w.done[id])
		err = n.Shard().Put(w.txn, w.done[id], key, value)
	case "delete":
		err = n.Shard().Delete(w.txn, w.done[id], key)
	}
	c.tell("%d: %s %s at node %d: %v", w.txn, kind, key, id, err)
	if !c.said(id, err, api.ErrState, api.ErrConflict, api.ErrMany) {
		w.wrong = true
		return
	}
	w.done[id]++
	if kind != "get" {
		if w.wrote[id] == nil {
			w.wrote[id] = map[string]string{}
		}
		w.wrote[id][key] = value
	}
	c.look(id)
}

// end: the client asks for Commit at the shards where it worked, or, if something went wrong, for Abort.
func (c *cluster) end(w *work) {
	if c.nodes[0] == nil {
		return
	}
	var shards []int
	for id, done := range w.done {
		if done > 0 {
			shards = append(shards, id)
		}
	}
	if w.wrong || shards == nil {
		c.giveUp(w)
		return
	}
	err := c.nodes[0].Coordinator().Commit(w.txn, shards)
	c.tell("%d: commit at %v: %v", w.txn, shards, err)
	w.ended = true
	w.asked = c.said(0, err, api.ErrTxn)
	if w.asked != (w.fate == 0) {
		c.fatal("%d is %s, and Commit says %v", w.txn, kindNames[w.fate], err)
	}
	c.look(0)
}

// giveUp: the client asks for Abort, also if it had asked for Commit.
func (c *cluster) giveUp(w *work) {
	if c.nodes[0] == nil {
		return
	}
	err := c.nodes[0].Coordinator().Abort(w.txn)
	c.tell("%d: abort: %v", w.txn, err)
	w.ended = true
	if c.said(0, err, api.ErrTxn, api.ErrState) != (w.fate == 0) && !disks(err) {
		c.fatal("%d is %s, and Abort says %v", w.txn, kindNames[w.fate], err)
	}
	c.look(0)
}

// collect: what a node has to send is under way.
func (c *cluster) collect(id int) {
	if c.nodes[id] == nil {
		return
	}
	for _, b := range c.nodes[id].Send() {
		m, err := shardcommit.DecodeMessage(b)
		if err != nil || m.From != id || m.To >= len(c.nodes) {
			c.fatal("node %d sends %s", id, messageTold(b))
		}
		c.underway = append(c.underway, b)
	}
	if len(c.underway) > 100000 {
		c.fatal("messages have no end")
	}
}

// take: a message is under way no longer.
func (c *cluster) take(at int) []byte {
	b := c.underway[at]
	c.underway = slices.Delete(c.underway, at, at+1)
	return b
}

// deliver: a message comes. (If its node is not open, it is lost.)
func (c *cluster) deliver(b []byte) {
	id := int(b[2])
	c.tell("node %d receives %s", id, messageTold(b))
	if c.nodes[id] == nil {
		return
	}
	own := slices.Clone(b)
	c.said(id, c.nodes[id].Receive(own))
	scribble(own)
	c.look(id)
}

// refused: something comes that is not to count.
func (c *cluster) refused(id int, b []byte, want error) {
	if c.nodes[id] == nil {
		return
	}
	if err := c.nodes[id].Receive(b); err != want {
		c.fatal("node %d: Receive of %x = %v, want %v", id, b, err, want)
	}
	c.look(id)
}

func (c *cluster) tick(id int) {
	if c.nodes[id] == nil {
		return
	}
	c.tell("node %d: a tick", id)
	c.nodes[id].Tick()
	c.look(id)
}

func (c *cluster) checkpoint(id int) {
	n := c.nodes[id]
	if n == nil {
		return
	}
	c.tell("node %d: a checkpoint", id)
	if id == 0 {
		c.said(id, n.Coordinator().Checkpoint())
	} else {
		c.said(id, n.Shard().Checkpoint())
	}
	c.look(id)
}

// fall: a node falls, and with it what it had to send. Of what was not durable that is there which choose says.
func (c *cluster) fall(id int, choose func(n int) int) {
	c.tell("node %d falls", id)
	c.nodes[id] = nil
	c.disks[id].loseSome(choose)
}

// allOpen: all nodes are open, over disks that are well.
func (c *cluster) allOpen(choose func(n int) int) {
	for id, d := range c.disks {
		if c.nodes[id] == nil || c.failed[id] {
			c.fall(id, choose)
		}
		d.well()
		if c.nodes[id] == nil {
			c.open(id)
		}
		if c.nodes[id] == nil {
			c.fatal("node %d does not open", id)
		}
	}
}

// restart: all nodes fall, and are opened at the same time.
func (c *cluster) restart(choose func(n int) int) {
	for id := range c.nodes {
		c.fall(id, choose)
	}
	nodes, errs := shardcommit.Restart(handed(c.disks))
	for id, n := range nodes {
		c.opened(id, n, errs[id])
	}
}

// clientsEnd: those that are not at their end yet.
func (c *cluster) clientsEnd() {
	for _, w := range c.work {
		if !w.ended {
			c.end(w)
		}
	}
}

// flow: all messages come, until there are none, in the order that choose says.
func (c *cluster) flow(choose func(n int) int) {
	for range 100 {
		for id := range c.nodes {
			c.collect(id)
		}
		if len(c.underway) == 0 {
			return
		}
		for len(c.underway) > 0 {
			c.deliver(c.take(choose(len(c.underway))))
		}
	}
	c.fatal("messages have no end")
}

// first: of messages that which was sent first.
func first(int) int { return 0 }

func (c *cluster) tickAll() {
	for id := range c.nodes {
		c.tick(id)
	}
}

// ticksInStep: so many at each node; all messages come between them.
func (c *cluster) ticksInStep(ticks int) {
	for range ticks {
		c.flow(first)
		c.tickAll()
	}
}

// settled: all is over: all transactions are decided, no node knows one, and the values are those of all that were committed, in their order.
func (c *cluster) settled() {
	for _, w := range c.work {
		if w.fate == 0 || c.nodes[0].Coordinator().Status(w.txn) != api.None {
			c.fatal("%d is not decided, or the coordinator knows it", w.txn)
		}
		for id, n := range c.nodes[1:] {
			if state := n.Shard().State(w.txn); state != api.None {
				c.fatal("%d: node %d knows it: state %d", w.txn, 1+id, state)
			}
		}
	}
	for id := range c.nodes {
		c.look(id)
		if sent := c.nodes[id].Send(); sent != nil {
			c.fatal("node %d sends %s", id, messagesTold(sent))
		}
	}
}
