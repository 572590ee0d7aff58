package shard

import (
	"iter"

	"shardcommit/order"
	"shardcommit/wire"
)

// The kinds of entries in a shard's ledger. (They stand on disks: none may get another number.)
const (
	prepared  uint8 = iota + 1 // a transaction, and what it holds
	committed                  // a transaction
	aborted                    // a transaction
	valued                     // a key and its value (in checkpoints alone)
)

// preparedEntry tells a transaction and what it holds.
func preparedEntry(txn uint64, held map[string]grip) string {
	b := wire.AppendNumber(nil, txn)
	for key, g := range order.ByKeys(held) {
		b = wire.AppendNumber(b, g.way)
		b = wire.AppendText(b, key)
		b = wire.AppendText(b, g.value)
	}
	return string(b)
}

// decidedEntry tells a transaction that is committed or aborted.
func decidedEntry(txn uint64) string {
	return string(wire.AppendNumber(nil, txn))
}

// valuedEntry tells a key and its value.
func valuedEntry(key string, value string) string {
	return string(wire.AppendText(wire.AppendText(nil, key), value))
}

// entries: a walk through entries by which a shard that is opened later has all that is durable here.
func (s *Shard) entries() iter.Seq2[uint8, string] {
	return func(yield func(kind uint8, payload string) bool) {
		for key, value := range order.ByKeys(s.values) {
			if !yield(valued, valuedEntry(key, value)) {
				return
			}
		}
		for _, txn := range s.Waiting() {
			if !yield(prepared, preparedEntry(txn, s.holdsOf(txn))) {
				return
			}
		}
	}
}
