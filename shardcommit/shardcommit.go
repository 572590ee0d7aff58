// Package shardcommit: transactions over shards, committed everywhere or nowhere, each node with a log of its own: see DOC.md.
package shardcommit

import (
	"shardcommit/api"
	"shardcommit/coordinator"
	"shardcommit/journal"
	"shardcommit/node"
	"shardcommit/shard"
	"shardcommit/wire"
)

// EncodeRecord writes a record (P3).
func EncodeRecord(r api.Record) ([]byte, error) { return wire.EncodeRecord(r) }

// Scan reads records (P4).
func Scan(b []byte) ([]api.Record, int) { return wire.Scan(b) }

// EncodeMessage writes a message (P5).
func EncodeMessage(m api.Message) ([]byte, error) { return wire.EncodeMessage(m) }

// DecodeMessage reads a message (P5).
func DecodeMessage(b []byte) (api.Message, error) { return wire.DecodeMessage(b) }

// Log is records on a disk (P6 to P11).
type Log = journal.Log

// OpenLog opens the log of a disk (P6, P10).
func OpenLog(d api.Disk) (*Log, error) { return journal.Open(d) }

// Shard is keys and values, and transactions that work on them (P12 to P22).
type Shard = shard.Shard

// OpenShard opens the shard of a disk (P12, P20).
func OpenShard(d api.Disk) (*Shard, error) { return shard.Open(d) }

// Coordinator is transactions that are decided (P23 to P32).
type Coordinator = coordinator.Coordinator

// OpenCoordinator opens the coordinator of a disk (P23, P31).
func OpenCoordinator(d api.Disk) (*Coordinator, error) { return coordinator.Open(d) }

// Node is the coordinator or a shard, and its messages (P33 to P36).
type Node = node.Node

// OpenNode opens a node: 0 the coordinator, 1 to 8 a shard (P33).
func OpenNode(d api.Disk, id int) (*Node, error) { return node.Open(d, id) }

// Restart opens many nodes at the same time: of each disk the node of that place (P37).
func Restart(disks []api.Disk) ([]*Node, []error) { return node.Restart(disks) }
