package coordinator

import (
	"shardcommit/api"
	"shardcommit/ledger"
	"shardcommit/wire"
)

// Open opens the coordinator of a disk, over nothing or over what another coordinator left.
func Open(d api.Disk) (*Coordinator, error) {
	c := &Coordinator{txns: map[uint64]transaction{}, limit: 1}
	entries, err := ledger.Open(d, c.read)
	if err != nil {
		return nil, err
	}
	c.ledger = entries
	// Any of the ids below the limit may have been handed out.
	c.next = c.limit
	return c, nil
}

// read takes in an entry: what the call turned that noted it; false: no coordinator noted it.
func (c *Coordinator) read(kind uint8, fields *wire.Fields) bool {
	switch kind {
	case reserved:
		return c.readReserved(fields)
	case committed:
		return c.readCommitted(fields)
	case ended:
		return c.readEnded(fields)
	}
	return false
}

func (c *Coordinator) readReserved(fields *wire.Fields) bool {
	was := c.limit
	c.limit = wire.NumberOf[uint64](fields)
	return fields.Right() && c.limit >= was
}

func (c *Coordinator) readCommitted(fields *wire.Fields) bool {
	txn := wire.NumberOf[uint64](fields)
	if txn == 0 || txn >= c.limit || c.Status(txn) != api.None {
		return false
	}
	var shards []int
	for fields.More() {
		shards = append(shards, int(wire.NumberOf[uint8](fields)))
	}
	if !fields.Right() || !rise(shards) {
		return false
	}
	c.txns[txn] = transaction{state: api.Committed, parts: partsOf(shards, saidYes)}
	return true
}

func (c *Coordinator) readEnded(fields *wire.Fields) bool {
	txn := wire.NumberOf[uint64](fields)
	if c.Status(txn) != api.Committed {
		return false
	}
	delete(c.txns, txn)
	return fields.Right()
}
