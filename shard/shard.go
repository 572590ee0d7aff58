// Package shard: keys and values, and the transactions that work on them.
package shard

import (
	"maps"
	"strings"

	"shardcommit/api"
	"shardcommit/ledger"
	"shardcommit/order"
)

// Shard is what is committed, and the transactions that are known, with what they hold. The ledger has what is durable of that.
type Shard struct {
	ledger *ledger.Ledger
	values map[string]string
	txns   map[uint64]transaction
	holds  map[hold]grip
	ticks  uint64
}

// transaction: the zero value is one that is not known.
type transaction struct {
	state int
	done  int    // operations
	last  uint64 // the Ticks up to its last operation that was done or met its conflict
}

// Get: what the transaction reads at the key; false: nothing.
func (s *Shard) Get(txn uint64, seq int, key string) (string, bool, error) {
	if err := s.operate(txn, seq, key, grip{way: reads}); err != nil {
		return "", false, err
	}
	if g := s.holds[hold{txn, key}]; g.writes() {
		return g.value, g.way == puts, nil
	}
	value, ok := s.Value(key)
	return value, ok, nil
}

// Put: the key is to have the value.
func (s *Shard) Put(txn uint64, seq int, key string, value string) error {
	return s.operate(txn, seq, key, grip{puts, value})
}

// Delete: the key is to have no value.
func (s *Shard) Delete(txn uint64, seq int, key string) error {
	return s.operate(txn, seq, key, grip{way: deletes})
}

// operate does an operation of a transaction, or says why not.
func (s *Shard) operate(txn uint64, seq int, key string, g grip) error {
	if err := s.refusal(txn, seq, key, g); err != nil {
		return err
	}
	t := s.txns[txn]
	t.last = s.ticks
	if s.clashes(txn, key, g) {
		t.state = api.Doomed
		s.txns[txn] = t
		return api.ErrConflict
	}
	t.state = api.Working
	t.done++
	s.txns[txn] = t
	// Key and value may be pieces of long texts, which are not to be kept with them.
	g.value = strings.Clone(g.value)
	s.take(txn, strings.Clone(key), g)
	return nil
}

// refusal: the first error by which an operation turns nothing.
func (s *Shard) refusal(txn uint64, seq int, key string, g grip) error {
	t := s.txns[txn]
	switch {
	case s.ledger == nil: // it was never opened
		return api.ErrDown
	case txn == 0:
		return api.ErrTxn
	case len(key) < 1 || len(key) > api.MaxKey || len(g.value) > api.MaxValue:
		return api.ErrBig
	case t.state == api.Prepared || seq != t.done:
		return api.ErrState
	case t.state == api.Doomed:
		return api.ErrConflict
	case t.state == api.None && len(s.txns) >= api.MaxTxns:
		return api.ErrMany
	}
	held := s.holdsOf(txn)
	if _, ok := held[key]; !ok && len(held) >= api.MaxLocks {
		return api.ErrMany
	}
	return nil
}

// Tick: transactions that nobody goes on with are not known any more.
func (s *Shard) Tick() {
	s.ticks++
	maps.DeleteFunc(s.txns, func(_ uint64, t transaction) bool {
		return t.state != api.Prepared && s.ticks-t.last >= api.Idle
	})
	s.release()
}

// State: of a transaction.
func (s *Shard) State(txn uint64) int { return s.txns[txn].state }

// Waiting: the transactions that are prepared, the lowest first.
func (s *Shard) Waiting() []uint64 {
	var waiting []uint64
	for txn, t := range order.ByKeys(s.txns) {
		if t.state == api.Prepared {
			waiting = append(waiting, txn)
		}
	}
	return waiting
}

// Value: what is committed of a key; false: nothing.
func (s *Shard) Value(key string) (string, bool) {
	value, ok := s.values[key]
	return value, ok
}

// All: a walk through what is committed when it is begun, by keys.
func (s *Shard) All() func(yield func(key string, value string) bool) {
	return order.ByKeys(s.values)
}
