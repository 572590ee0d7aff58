package shard

import (
	"maps"

	"shardcommit/api"
)

// hold: a transaction holds a key.
type hold struct {
	txn uint64
	key string
}

// grip is how a key is held.
type grip struct {
	way   uint8
	value string // what was put
}

// The ways in which a key is held. (They stand on disks: none may get another number.)
const (
	reads uint8 = iota
	puts
	deletes
)

func (g grip) writes() bool { return g.way != reads }

// holdsOf tells what a transaction holds, by keys.
func (s *Shard) holdsOf(txn uint64) map[string]grip {
	held := map[string]grip{}
	for h, g := range s.holds {
		if h.txn == txn {
			held[h.key] = g
		}
	}
	return held
}

// clashes: does another transaction hold the key in such a way that this one must not hold it so?
func (s *Shard) clashes(txn uint64, key string, g grip) bool {
	for other := range s.txns {
		theirs, held := s.holds[hold{other, key}]
		if held && other != txn && (theirs.writes() || g.writes()) {
			return true
		}
	}
	return false
}

// take: the transaction holds the key so. To read a key that it holds to write changes nothing about that.
func (s *Shard) take(txn uint64, key string, g grip) {
	h := hold{txn, key}
	if g.writes() || !s.holds[h].writes() {
		s.holds[h] = g
	}
}

// forget: the transaction is not known any more.
func (s *Shard) forget(txn uint64) {
	delete(s.txns, txn)
	s.release()
}

// release: what is not known holds nothing.
func (s *Shard) release() {
	maps.DeleteFunc(s.holds, func(h hold, _ grip) bool {
		return s.State(h.txn) == api.None
	})
}
