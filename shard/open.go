package shard

import (
	"shardcommit/api"
	"shardcommit/ledger"
	"shardcommit/wire"
)

// Open opens the shard of a disk, over nothing or over what another shard left.
func Open(d api.Disk) (*Shard, error) {
	s := &Shard{
		values: map[string]string{},
		txns:   map[uint64]transaction{},
		holds:  map[hold]grip{},
	}
	entries, err := ledger.Open(d, s.read)
	if err != nil {
		return nil, err
	}
	s.ledger = entries
	return s, nil
}

// read takes in an entry: what the call turned that noted it; false: no shard noted it.
func (s *Shard) read(kind uint8, fields *wire.Fields) bool {
	switch kind {
	case prepared:
		return s.readPrepared(fields)
	case committed:
		return s.readDecided(fields, s.apply)
	case aborted:
		return s.readDecided(fields, s.forget)
	case valued:
		return s.readValued(fields)
	}
	return false
}

func (s *Shard) readPrepared(fields *wire.Fields) bool {
	txn := wire.NumberOf[uint64](fields)
	if txn == 0 || s.State(txn) != api.None {
		return false
	}
	s.txns[txn] = transaction{state: api.Prepared}
	for fields.More() {
		way, key, value := wire.NumberOf[uint8](fields), fields.Text(), fields.Text()
		if way > deletes {
			return false
		}
		s.take(txn, key, grip{way, value})
	}
	return fields.Right()
}

// readDecided: turn is what is done with the transaction that was decided.
func (s *Shard) readDecided(fields *wire.Fields, turn func(txn uint64)) bool {
	txn := wire.NumberOf[uint64](fields)
	if s.State(txn) != api.Prepared {
		return false
	}
	turn(txn)
	return fields.Right()
}

func (s *Shard) readValued(fields *wire.Fields) bool {
	key, value := fields.Text(), fields.Text()
	s.values[key] = value
	return fields.Right()
}
