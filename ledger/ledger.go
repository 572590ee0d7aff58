// Package ledger: entries over a log, each a kind and a payload, and checkpoints: entries that stand for all that were noted ahead of them.
package ledger

import (
	"iter"

	"shardcommit/api"
	"shardcommit/journal"
	"shardcommit/wire"
)

// The kinds of records that are no entry as it was noted. An entry of a checkpoint has the kind of the entry and the bit of a checkpoint: so one of a checkpoint that was not ended is never taken for one that was noted behind it.
const (
	ofCheckpoint = 0x80
	begins       = 0xfe
	ends         = 0xff
)

// Ledger is entries on a disk. Their kinds are below 0x7e.
type Ledger struct {
	log *journal.Log
}

// Open opens the ledger of a disk, over nothing or over what another ledger left; read is handed the entries that count, and says whether each is one of its own. ErrFrame, if one is not, or if entries went and no checkpoint stands for them: no failure of power does that.
func Open(d api.Disk, read func(kind uint8, fields *wire.Fields) bool) (*Ledger, error) {
	log, err := journal.Open(d)
	if err != nil {
		return nil, err
	}
	l := &Ledger{log: log}
	if begin, _ := l.lastCheckpoint(); begin == 0 && firstOf(log) > 1 {
		return nil, api.ErrFrame
	}
	for kind, payload := range l.all() {
		if !read(kind, wire.FieldsOf(payload)) {
			return nil, api.ErrFrame
		}
	}
	return l, nil
}

// firstOf tells the number of the first record that a log keeps, or would have next.
func firstOf(log *journal.Log) uint64 {
	for r := range log.All() {
		return r.LSN
	}
	return log.Next()
}

// all: a walk through the entries that count: those of the last checkpoint, and those that were noted behind it.
func (l *Ledger) all() iter.Seq2[uint8, string] {
	return func(yield func(kind uint8, payload string) bool) {
		begin, end := l.lastCheckpoint()
		for r := range l.log.All() {
			noted := r.Kind < ofCheckpoint && r.LSN > end
			within := begin < r.LSN && r.LSN < end
			if (noted || within) && !yield(r.Kind&^ofCheckpoint, r.Payload) {
				return
			}
		}
	}
}

// lastCheckpoint tells the numbers of the records between which the last whole checkpoint stands; 0, 0: there is none.
func (l *Ledger) lastCheckpoint() (begin uint64, end uint64) {
	last := uint64(0)
	for r := range l.log.All() {
		switch {
		case r.Kind == begins:
			last = r.LSN
		case r.Kind == ends && last > 0: // else the log was cut since it began
			begin, end = last, r.LSN
		}
	}
	return begin, end
}

// Note: an entry more, that need not be durable.
func (l *Ledger) Note(kind uint8, payload string) error {
	_, err := l.log.Append(kind, payload)
	return err
}

// Keep: an entry more, durably, and all ahead of it.
func (l *Ledger) Keep(kind uint8, payload string) error {
	if err := l.Note(kind, payload); err != nil {
		return err
	}
	return l.log.Force()
}

// Checkpoint: these entries stand, durably, for all that were noted ahead of them, which go. Until its end is durable it counts for nothing: then what it stands for is all there still.
func (l *Ledger) Checkpoint(entries iter.Seq2[uint8, string]) error {
	begin, err := l.log.Append(begins, "")
	if err != nil {
		return err
	}
	for kind, payload := range entries {
		if err := l.Note(kind|ofCheckpoint, payload); err != nil {
			return err
		}
	}
	if err := l.Note(ends, ""); err != nil {
		return err
	}
	return l.log.Cut(begin)
}
