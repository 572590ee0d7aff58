package coordinator

import (
	"iter"

	"shardcommit/api"
	"shardcommit/order"
	"shardcommit/wire"
)

// The kinds of entries in a coordinator's ledger. (They stand on disks: none may get another number.)
const (
	reserved  uint8 = iota + 1 // the limit of ids
	committed                  // a transaction, and its shards that said Yes
	ended                      // a transaction of which all shards are done
)

// reservedEntry tells the limit below which ids may have been handed out.
func reservedEntry(limit uint64) string {
	return string(wire.AppendNumber(nil, limit))
}

// committedEntry tells a transaction and its shards that said Yes. Those that are done are told too: they are to be done anew.
func committedEntry(txn uint64, t transaction) string {
	b := wire.AppendNumber(nil, txn)
	for shard := range t.shards(part.hasSaidYes) {
		b = wire.AppendNumber(b, uint8(shard))
	}
	return string(b)
}

// endedEntry tells a transaction of which all shards are done.
func endedEntry(txn uint64) string {
	return string(wire.AppendNumber(nil, txn))
}

// entries: a walk through entries by which a coordinator that is opened later has all that is durable here.
func (c *Coordinator) entries() iter.Seq2[uint8, string] {
	return func(yield func(kind uint8, payload string) bool) {
		if !yield(reserved, reservedEntry(c.limit)) {
			return
		}
		for txn, t := range order.ByKeys(c.txns) {
			if t.state == api.Committed && !yield(committed, committedEntry(txn, t)) {
				return
			}
		}
	}
}
