package coordinator

import "shardcommit/api"

// Vote: of a shard. (One that is awaited takes part, in a transaction that is voting, and did not vote yet.)
func (c *Coordinator) Vote(txn uint64, shard int, vote int) error {
	t, voted := c.txns[txn], partOf(vote)
	switch {
	case voted == none || t.at(shard) != awaited:
		return nil
	case t.doubt != nil:
		return t.doubt
	}
	then := t.with(shard, voted)
	if voted != saidNo && !then.has(part.isAwaited) {
		return c.commit(txn, then)
	}
	c.txns[txn] = then
	if voted == saidNo {
		c.abort(txn)
	}
	return nil
}

// commit: all voted, and none said No. What is not committed is aborted, for one that is opened later: so nobody is told ahead of its being durable.
func (c *Coordinator) commit(txn uint64, t transaction) error {
	if !t.has(part.hasSaidYes) {
		c.became(txn, api.Commit)
		delete(c.txns, txn)
		return nil
	}
	if err := c.ledger.Keep(committed, committedEntry(txn, t)); err != nil {
		c.leaveInDoubt(txn, err)
		return err
	}
	t.state = api.Committed
	c.txns[txn] = t
	c.became(txn, api.Commit)
	c.send(txn, api.Commit, part.isToCommit)
	return nil
}

// leaveInDoubt: whether the transaction is committed only one can tell that is opened later; so nothing is to be done about it here any more.
func (c *Coordinator) leaveInDoubt(txn uint64, why error) {
	t := c.txns[txn]
	t.doubt = why
	c.txns[txn] = t
}

// Done: a shard that said Yes is done. That need not be durable: whoever opens the coordinator later asks it again.
func (c *Coordinator) Done(txn uint64, shard int) error {
	t := c.txns[txn]
	if t.state != api.Committed || t.at(shard) != saidYes {
		return nil
	}
	then := t.with(shard, done)
	if then.has(part.isToCommit) {
		c.txns[txn] = then
		return nil
	}
	if err := c.ledger.Note(ended, endedEntry(txn)); err != nil {
		return err
	}
	delete(c.txns, txn)
	return nil
}

// Checkpoint writes anew what is durable; what was written ahead of that goes.
func (c *Coordinator) Checkpoint() error {
	if c.ledger == nil { // it was never opened
		return api.ErrDown
	}
	return c.ledger.Checkpoint(c.entries())
}
