// Package node: the coordinator or a shard, and the messages that come to it and go from it.
package node

import (
	"shardcommit/api"
	"shardcommit/coordinator"
	"shardcommit/shard"
	"shardcommit/wire"
)

// ofCoordinator is the number of the node that has the coordinator; all above it have shards.
const ofCoordinator = 0

// Node has the coordinator, or else a shard. (The zero value has neither: it was never opened.)
type Node struct {
	id          int
	coordinator *coordinator.Coordinator
	shard       *shard.Shard
	out         []api.Message // what is to be sent, but for what the coordinator has to send by itself
}

// Open opens the node of a disk, over nothing or over what another node of that number left. ErrShard, if there is no node of that number.
func Open(d api.Disk, id int) (*Node, error) {
	if id < ofCoordinator || id > api.MaxShards {
		return nil, api.ErrShard
	}
	n := &Node{id: id}
	var err error
	if id == ofCoordinator {
		n.coordinator, err = coordinator.Open(d)
	} else {
		n.shard, err = shard.Open(d)
	}
	if err != nil {
		return nil, err
	}
	return n, nil
}

// Coordinator: nil, if the node has a shard.
func (n *Node) Coordinator() *coordinator.Coordinator { return n.coordinator }

// Shard: nil, if the node has the coordinator.
func (n *Node) Shard() *shard.Shard { return n.shard }

// Tick: a tick has passed. What is prepared can be decided by the coordinator alone: so a shard asks until it is told.
func (n *Node) Tick() {
	if n.coordinator != nil {
		n.coordinator.Tick()
	}
	if n.shard != nil {
		n.shard.Tick()
		for _, txn := range n.shard.Waiting() {
			n.send(api.Inquire, ofCoordinator, txn)
		}
	}
}

// send: a message to another node is to be sent.
func (n *Node) send(kind int, to int, txn uint64) {
	n.out = append(n.out, api.Message{Kind: kind, From: n.id, To: to, Txn: txn})
}

// Send: the messages that are to be sent, since the last call.
func (n *Node) Send() [][]byte {
	if n.coordinator != nil {
		for _, due := range n.coordinator.Out() {
			n.send(due.What, due.Shard, due.Txn)
		}
	}
	var sent [][]byte
	for _, m := range n.out {
		// All that gets there is a message: no transaction has the id 0.
		if b, err := wire.EncodeMessage(m); err == nil {
			sent = append(sent, b)
		}
	}
	n.out = nil
	return sent
}
