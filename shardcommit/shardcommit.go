// Package shardcommit: transactions over shards, committed everywhere or nowhere, each node with a log of its own: see DOC.md.
package shardcommit

import (
	"shardcommit/api"
	"shardcommit/journal"
	"shardcommit/shard"
	"shardcommit/wire"
)

// EncodeRecord writes a record (P3).
func EncodeRecord(r api.Record) ([]byte, error) { return wire.EncodeRecord(r) }

// Scan reads records (P4).
func Scan(b []byte) ([]api.Record, int) { return wire.Scan(b) }

// EncodeMessage writes a message (P5).
func EncodeMessage(m api.Message) ([]byte, error) { return wire.EncodeMessage(m) }

// DecodeMessage reads a message (P5).
func DecodeMessage(b []byte) (api.Message, error) { return wire.DecodeMessage(b) }

// Log is records on a disk (P6 to P11).
type Log = journal.Log

// OpenLog opens the log of a disk (P6, P10).
func OpenLog(d api.Disk) (*Log, error) { return journal.Open(d) }

// Shard is keys and values, and transactions that work on them (P12 to P22).
type Shard = shard.Shard

// OpenShard opens the shard of a disk (P12, P20).
func OpenShard(d api.Disk) (*Shard, error) { return shard.Open(d) }

// Coordinator is transactions that are decided.
type Coordinator struct{}

// OpenCoordinator opens the coordinator of a disk (P23, P31).
func OpenCoordinator(d api.Disk) (*Coordinator, error) { return nil, nil }

// Begin: a transaction more (P24).
func (c *Coordinator) Begin() (uint64, error) { return 0, nil }

// Commit: votes are asked for (P25).
func (c *Coordinator) Commit(txn uint64, shards []int) error { return nil }

// Abort: it is aborted (P26).
func (c *Coordinator) Abort(txn uint64) error { return nil }

// Vote: of a shard (P27).
func (c *Coordinator) Vote(txn uint64, shard int, vote int) error { return nil }

// Done: a shard says that it is done (P28).
func (c *Coordinator) Done(txn uint64, shard int) error { return nil }

// Answer: what a shard is told that asks (P29).
func (c *Coordinator) Answer(txn uint64) int { return 0 }

// Tick: votes that do not come; what is to be sent again (P30).
func (c *Coordinator) Tick() {}

// Status: of a transaction (P24).
func (c *Coordinator) Status(txn uint64) int { return 0 }

// Results: what became of transactions, since the last call (P30).
func (c *Coordinator) Results() []api.Result { return nil }

// Out: what is to be sent, since the last call (P30).
func (c *Coordinator) Out() []api.Due { return nil }

// Checkpoint writes anew what is durable (P32).
func (c *Coordinator) Checkpoint() error { return nil }

// Node is the coordinator or a shard, and its messages.
type Node struct{}

// OpenNode opens a node: 0 the coordinator, 1 to 8 a shard (P33).
func OpenNode(d api.Disk, id int) (*Node, error) { return nil, nil }

// Coordinator: of node 0; else nil (P33).
func (n *Node) Coordinator() *Coordinator { return nil }

// Shard: of a node that is one; else nil (P33).
func (n *Node) Shard() *Shard { return nil }

// Receive: a message came (P34).
func (n *Node) Receive(b []byte) error { return nil }

// Tick: a tick has passed (P35).
func (n *Node) Tick() {}

// Send: messages that are to be sent now (P35).
func (n *Node) Send() [][]byte { return nil }

// Restart opens many nodes at the same time: of each disk the node of that place (P37).
func Restart(disks []api.Disk) ([]*Node, []error) { return nil, nil }
