package shard

import "shardcommit/api"

// Prepare: the vote about a transaction; behind Yes it is prepared, durably.
func (s *Shard) Prepare(txn uint64) (int, error) {
	if txn == 0 {
		return 0, api.ErrTxn
	}
	switch s.State(txn) {
	case api.Prepared:
		return api.Yes, nil
	case api.Working:
		return s.prepare(txn)
	}
	s.forget(txn)
	return api.No, nil
}

// prepare: the vote about one that is working.
func (s *Shard) prepare(txn uint64) (int, error) {
	held := s.holdsOf(txn)
	if !anyWrites(held) {
		s.forget(txn)
		return api.ReadOnly, nil
	}
	if err := s.ledger.Keep(prepared, preparedEntry(txn, held)); err != nil {
		return 0, err
	}
	s.txns[txn] = transaction{state: api.Prepared}
	return api.Yes, nil
}

func anyWrites(held map[string]grip) bool {
	for _, g := range held {
		if g.writes() {
			return true
		}
	}
	return false
}

// Commit: what the transaction wrote is committed, durably.
func (s *Shard) Commit(txn uint64) error {
	switch {
	case txn == 0:
		return api.ErrTxn
	case s.State(txn) == api.None:
		return nil
	case s.State(txn) != api.Prepared:
		return api.ErrState
	}
	if err := s.ledger.Keep(committed, decidedEntry(txn)); err != nil {
		return err
	}
	s.apply(txn)
	return nil
}

// apply: what the transaction wrote counts; it is not known any more.
func (s *Shard) apply(txn uint64) {
	for key, g := range s.holdsOf(txn) {
		switch g.way {
		case puts:
			s.values[key] = g.value
		case deletes:
			delete(s.values, key)
		}
	}
	s.forget(txn)
}

// Abort: the transaction is not known any more, and nothing of it counts. That need not be durable: whoever opens the shard later, and finds it prepared, asks about it again.
func (s *Shard) Abort(txn uint64) error {
	if txn == 0 {
		return api.ErrTxn
	}
	if s.State(txn) == api.Prepared {
		if err := s.ledger.Note(aborted, decidedEntry(txn)); err != nil {
			return err
		}
	}
	s.forget(txn)
	return nil
}

// Checkpoint writes anew what is durable; what was written ahead of that goes.
func (s *Shard) Checkpoint() error {
	if s.ledger == nil { // it was never opened
		return api.ErrDown
	}
	return s.ledger.Checkpoint(s.entries())
}
