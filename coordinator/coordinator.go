// Package coordinator: transactions that are decided: committed at all their shards, or at none.
package coordinator

import (
	"shardcommit/api"
	"shardcommit/ledger"
	"shardcommit/order"
)

// Coordinator is the transactions that are known, and what is to be told of them. The ledger has what is durable of that: the ids that may be handed out, and those that are committed. Of all others nothing is written: what a coordinator does not know is aborted.
type Coordinator struct {
	ledger  *ledger.Ledger
	txns    map[uint64]transaction
	next    uint64 // the next id
	limit   uint64 // the ids below it are reserved, durably: none of them is handed out by one that is opened later
	ticks   uint64
	results []api.Result
	out     []api.Due
}

// Begin: a transaction more; its id.
func (c *Coordinator) Begin() (uint64, error) {
	switch {
	case c.ledger == nil: // it was never opened
		return 0, api.ErrDown
	case len(c.txns) >= api.MaxTxns:
		return 0, api.ErrMany
	}
	if c.next == c.limit {
		if err := c.reserve(); err != nil {
			return 0, err
		}
	}
	txn := c.next
	c.next++
	c.txns[txn] = transaction{state: api.Active}
	return txn, nil
}

// reserve: a block of ids more may be handed out.
func (c *Coordinator) reserve() error {
	limit := c.limit + api.Block
	if err := c.ledger.Keep(reserved, reservedEntry(limit)); err != nil {
		return err
	}
	c.limit = limit
	return nil
}

// Commit: the shards, which rise, are asked for their votes.
func (c *Coordinator) Commit(txn uint64, shards []int) error {
	switch state := c.Status(txn); {
	case state == api.None:
		return api.ErrTxn
	case state != api.Active:
		return api.ErrState
	case !rise(shards):
		return api.ErrShard
	}
	c.txns[txn] = transaction{state: api.Voting, parts: partsOf(shards, awaited), since: c.ticks}
	c.send(txn, api.Prepare, part.isAwaited)
	return nil
}

// Abort: the transaction is aborted.
func (c *Coordinator) Abort(txn uint64) error {
	t := c.txns[txn]
	switch {
	case t.state == api.None:
		return api.ErrTxn
	case t.state == api.Committed:
		return api.ErrState
	case t.doubt != nil:
		return t.doubt
	}
	c.abort(txn)
	return nil
}

// abort: shards that may be prepared, or may get Prepare yet, are told. Nothing is written, since what is not known is aborted.
func (c *Coordinator) abort(txn uint64) {
	c.became(txn, api.Abort)
	c.send(txn, api.Abort, part.mayBePrepared)
	delete(c.txns, txn)
}

// Answer: what a shard is told that asks; 0: nothing yet.
func (c *Coordinator) Answer(txn uint64) int {
	switch c.Status(txn) {
	case api.None:
		return api.Abort
	case api.Committed:
		return api.Commit
	}
	return 0
}

// Tick: votes are awaited no longer; else what was not answered is to be sent again.
func (c *Coordinator) Tick() {
	c.ticks++
	for txn, t := range order.ByKeys(c.txns) {
		switch {
		case t.doubt != nil: // whatever were done could be wrong
		case t.state == api.Voting && c.ticks-t.since >= api.Patience:
			c.abort(txn)
		case t.state == api.Voting:
			c.send(txn, api.Prepare, part.isAwaited)
		case t.state == api.Committed:
			c.send(txn, api.Commit, part.isToCommit)
		}
	}
}

// Status: of a transaction.
func (c *Coordinator) Status(txn uint64) int { return c.txns[txn].state }

// became: that became of the transaction.
func (c *Coordinator) became(txn uint64, what int) {
	c.results = append(c.results, api.Result{Txn: txn, What: what})
}

// send: the transaction's shards that are meant are to be sent this.
func (c *Coordinator) send(txn uint64, what int, meant func(part) bool) {
	for shard := range c.txns[txn].shards(meant) {
		c.out = append(c.out, api.Due{Txn: txn, Shard: shard, What: what})
	}
}

// Results: what became of transactions, since the last call.
func (c *Coordinator) Results() []api.Result {
	results := c.results
	c.results = nil
	return results
}

// Out: what is to be sent, since the last call.
func (c *Coordinator) Out() []api.Due {
	out := c.out
	c.out = nil
	return out
}
