package shardcommit_test

import (
	"fmt"
	"testing"

	"shardcommit/api"
)

// faults is what is to go wrong in a row of messages: the first fault at one message, a second at any behind it.
type faults struct {
	first, left int
	choose      func(n int) int
}

// now: does a fault come with this message?
func (f *faults) now() bool {
	f.first--
	if f.first > 0 || f.left == 0 || f.first < 0 && f.choose(2) == 0 {
		return false
	}
	f.left--
	return true
}

// fallsNow: a node falls, and is opened again at once; of all that was not durable the same becomes.
func (c *cluster) fallsNow(id int, choose func(n int) int) {
	c.nodes[id] = nil
	c.tell("node %d falls", id)
	fate := lost
	if len(c.disks[id].pending) > 0 {
		fate = choose(begun + 1)
	}
	c.disks[id].lose(func(n int) int { return min(fate, n-1) })
	c.open(id)
}

// goesWrong: a message, or the node to which it comes, meets a fault.
func (c *cluster) goesWrong(b []byte, choose func(n int) int) {
	id, d := int(b[2]), c.disks[b[2]]
	switch choose(8) {
	case 0: // it is lost: what comes of it is damaged
		b[len(c.story)%len(b)] ^= 0x10
		c.refused(id, b, api.ErrFrame)
	case 1:
		c.deliver(b)
		c.deliver(b)
	case 2:
		c.deliver(b)
		c.underway = append(c.underway, b)
	case 3:
		c.underway = append(c.underway, b)
	case 4:
		c.fallsNow(id, choose)
		c.deliver(b)
	case 5:
		c.deliver(b)
		c.fallsNow(id, choose)
	case 6:
		d.falling(1 + choose(2))
		c.deliver(b)
		if c.failed[id] {
			c.fallsNow(id, choose)
		}
	case 7:
		d.failing(1+choose(2), api.ErrFull)
		d.beginning = 9
		c.deliver(b)
		if c.failed[id] && choose(2) == 0 { // else it goes on, and can write no more
			c.fallsNow(id, choose)
		}
	}
	d.failsAt = 0
}

// flowWith: all messages come but for those that meet a fault.
func (c *cluster) flowWith(f *faults) {
	for range 1000 {
		for id := range c.nodes {
			c.collect(id)
		}
		if len(c.underway) == 0 {
			return
		}
		if b := c.take(0); f.now() {
			c.goesWrong(b, f.choose)
		} else {
			c.deliver(b)
		}
	}
	c.fatal("messages have no end")
}

// P36: short transactions, with one fault and with two: the first at one of their messages, the second at any behind it, up to the third tick.
func TestP36TwoFaults(t *testing.T) {
	for name, begin := range map[string]func(c *cluster){
		"two that write": func(c *cluster) {
			w := c.begin()
			c.operate(w, 1, "put", "a")
			c.operate(w, 2, "delete", "a")
			c.end(w)
		},
		"one that reads": func(c *cluster) {
			w := c.begin()
			c.operate(w, 1, "get", "a")
			c.operate(w, 2, "put", "b")
			c.end(w)
		},
		"one that was dropped": func(c *cluster) {
			w := c.begin()
			c.operate(w, 1, "put", "a")
			c.operate(w, 2, "put", "a")
			c.fallsNow(2, loseAll)
			c.end(w)
		},
		"two at the same time": func(c *cluster) {
			v, w := c.begin(), c.begin()
			c.operate(v, 1, "put", "a")
			c.operate(w, 1, "put", "b")
			c.end(w)
			c.end(v)
		},
	} {
		for at := 1; at <= 10; at++ {
			t.Run(fmt.Sprint(name, " ", at), func(t *testing.T) {
				t.Parallel()
				outcomes(func(choose func(n int) int) {
					c := newCluster(t, 2)
					w := c.begin() // so that there are values already
					c.operate(w, 1, "put", "a")
					c.operate(w, 2, "put", "a")
					c.end(w)
					c.flow(first)
					begin(c)
					f := &faults{first: at, left: 2, choose: choose}
					for range 3 {
						c.flowWith(f)
						c.tickAll()
					}
					c.ticksInStep(7) // a node whose disk failed goes on for so long
					c.allOpen(choose)
					c.clientsEnd()
					c.ticksInStep(40)
					c.flow(first)
					c.settled()
				})
			})
		}
	}
}
