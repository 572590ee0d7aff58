package shardcommit_test

import (
	"math/rand"
	"slices"
	"strconv"
	"sync/atomic"
	"testing"

	"shardcommit/api"
)

// openWork: the work whose client is not at its end.
func (c *cluster) openWork() []*work {
	return slices.DeleteFunc(slices.Clone(c.work), func(w *work) bool { return w.ended })
}

// clientAtRandom: a client does something.
func (c *cluster) clientAtRandom(r *rand.Rand) {
	all := c.openWork()
	if len(all) == 0 || len(all) < 5 && r.Intn(4) == 0 {
		c.begin()
		return
	}
	w := all[r.Intn(len(all))]
	switch what := r.Intn(60); {
	case what < 18 && w.done != [9]int{} || w.wrong:
		c.end(w)
	case what < 19:
		c.giveUp(c.work[r.Intn(len(c.work))])
	default:
		kinds := []string{"get", "put", "put", "delete"}
		c.operate(w, 1+r.Intn(len(c.nodes)-1), kinds[r.Intn(len(kinds))], strconv.Itoa(r.Intn(c.keys)))
	}
}

// networkAtRandom: something becomes of a message that is under way.
func (c *cluster) networkAtRandom(r *rand.Rand) {
	if len(c.underway) == 0 {
		return
	}
	b := c.take(r.Intn(len(c.underway)))
	switch r.Intn(20) {
	case 0, 1:
		c.tell("lost: %s", messageTold(b))
	case 2, 3:
		c.underway = append(c.underway, slices.Clone(b))
		c.deliver(b)
	case 4:
		c.refused(int(b[2]), damaged(r, b), api.ErrFrame)
	case 5:
		if id := r.Intn(len(c.nodes)); id != int(b[2]) {
			c.refused(id, b, api.ErrShard)
		}
	default:
		c.deliver(b)
	}
}

// damaged: up to three bits are turned, or some bytes are gone, or too many.
func damaged(r *rand.Rand, b []byte) []byte {
	b = slices.Clone(b)
	switch r.Intn(4) {
	case 0:
		return b[:r.Intn(len(b))]
	case 1:
		return append(b, make([]byte, 1+r.Intn(20))...)
	}
	for _, bit := range r.Perm(8 * len(b))[:1+r.Intn(3)] {
		b[bit/8] ^= 1 << (bit % 8)
	}
	return b
}

// nodeAtRandom: something happens to a node.
func (c *cluster) nodeAtRandom(r *rand.Rand) {
	id := r.Intn(len(c.nodes))
	if r.Intn(4) == 0 {
		id = 0 // all hangs on this one
	}
	switch what := r.Intn(20); {
	case c.nodes[id] == nil:
	case what < 10:
		c.disks[id].fail(r.Intn, 1+r.Intn(12))
	case what < 14:
		c.fall(id, r.Intn)
	case what < 19:
		c.checkpoint(id)
	default:
		c.restart(r.Intn)
	}
}

// mendAtRandom: one that fell is opened again, unless its disk fails at that; one whose disk failed falls.
func (c *cluster) mendAtRandom(r *rand.Rand) {
	id := r.Intn(len(c.nodes))
	if c.nodes[id] != nil {
		if c.failed[id] {
			c.fall(id, r.Intn)
		}
		return
	}
	if r.Intn(4) == 0 {
		c.disks[id].fail(r.Intn, 4)
	}
	if c.open(id); c.nodes[id] == nil {
		c.disks[id].loseSome(r.Intn)
	}
	c.disks[id].well()
}

// someTicks: of one node: mostly one, at times so many that others are waited for no longer.
func (c *cluster) someTicks(r *rand.Rand) {
	id, ticks := r.Intn(len(c.nodes)), 1
	if r.Intn(5) == 0 {
		ticks += r.Intn(20)
	}
	for range ticks {
		c.tick(id)
	}
}

// settle: all nodes are open, clients come to their end, all messages come, and forty ticks pass at each node: in step, or as it happens, or each node's at once.
func (c *cluster) settle(r *rand.Rand) {
	c.allOpen(r.Intn)
	c.clientsEnd()
	switch r.Intn(3) {
	case 0:
		c.ticksInStep(40)
	case 1:
		c.ticksAtRandom(r)
	case 2:
		for _, id := range r.Perm(len(c.nodes)) {
			for range 40 {
				c.tick(id)
			}
			if r.Intn(2) == 0 {
				c.flow(r.Intn)
			}
		}
	}
	c.flow(r.Intn)
	c.settled()
}

// ticksAtRandom: forty at each node, and messages that come between them, late and in any order.
func (c *cluster) ticksAtRandom(r *rand.Rand) {
	var ids []int
	for id := range c.nodes {
		ids = append(ids, slices.Repeat([]int{id}, 40)...)
	}
	r.Shuffle(len(ids), func(i, j int) { ids[i], ids[j] = ids[j], ids[i] })
	for _, id := range ids {
		c.tick(id)
		c.collect(r.Intn(len(c.nodes)))
		for len(c.underway) > 0 && r.Intn(6) > 0 {
			c.deliver(c.take(r.Intn(len(c.underway))))
		}
	}
}

// clusterAtRandom: clients at work, over a network and nodes that are worse or better.
func clusterAtRandom(t *testing.T, seed int64) *cluster {
	r := rand.New(rand.NewSource(seed))
	c := newCluster(t, 1+r.Intn(4)+r.Intn(2)*r.Intn(5))
	c.keys = 2 << r.Intn(6)
	bad := r.Intn(4) // of what happens
	for range 2 {
		for range 100 + r.Intn(300) {
			switch what := r.Intn(100); {
			case what < 27:
				c.clientAtRandom(r)
			case what < 62:
				c.collect(r.Intn(len(c.nodes)))
			case what < 90:
				c.networkAtRandom(r)
			case what < 92:
				c.someTicks(r)
			case what < 97:
				c.mendAtRandom(r)
			case what < 97+bad:
				c.nodeAtRandom(r)
			}
		}
		c.settle(r)
	}
	return c
}

// P36: whatever comes, is lost, and falls.
func TestP36ManyLives(t *testing.T) {
	var committed, aborted, doubts atomic.Int64
	t.Run("all", func(t *testing.T) {
		for part := range int64(8) {
			t.Run(strconv.FormatInt(part, 10), func(t *testing.T) {
				t.Parallel()
				for seed := part; seed < 2400; seed += 8 {
					c := clusterAtRandom(t, seed)
					committed.Add(int64(len(c.order)))
					aborted.Add(int64(len(c.work) - len(c.order)))
					doubts.Add(int64(c.doubts))
				}
			})
		}
	})
	// Else this tests less than it says.
	t.Logf("%d committed, %d of them known only behind a fall; %d aborted", committed.Load(), doubts.Load(), aborted.Load())
	if committed.Load() < 1000 || aborted.Load() < 1000 || doubts.Load() < 10 {
		t.Errorf("too few are committed, aborted or in doubt")
	}
}
