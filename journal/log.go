// Package journal: a log of records over a disk. The records are in segments: a record goes into the last one; they go by whole segments, from the lowest on.
package journal

import (
	"slices"
	"strings"

	"shardcommit/api"
	"shardcommit/wire"
)

// Log is records on a disk. It has them here too, since a walk through them cannot say what a disk says.
type Log struct {
	disk     api.Disk
	segments []uint64     // those that are kept, by the numbers of their first records
	filled   int          // bytes of the last segment; from api.Segment on the next record begins another
	records  []api.Record // those that are kept
	next     uint64
	durable  uint64 // the records below this number are durable
	failed   error  // what the disk said when it failed
}

// Append: a record more, that need not be durable; its number. ErrBig, if the payload is above the bound.
func (l *Log) Append(kind uint8, payload string) (uint64, error) {
	b, err := wire.EncodeRecord(api.Record{LSN: l.next, Kind: kind, Payload: payload})
	if err != nil {
		return 0, err
	}
	size := len(b)
	err = l.write(l.makeRoom, func() error {
		return l.disk.Append(segmentName(l.segments[len(l.segments)-1]), b)
	})
	if err != nil {
		return 0, err
	}
	// The payload may be a piece of a long text, which is not to be kept with it.
	r := api.Record{LSN: l.next, Kind: kind, Payload: strings.Clone(payload)}
	l.filled += size
	l.records = append(l.records, r)
	l.next++
	return r.LSN, nil
}

// Force: all records are durable.
func (l *Log) Force() error {
	if l.durable == l.next {
		return nil
	}
	return l.write(l.sync)
}

// Cut: records below low are no longer needed; those of the segments that lie below it whole go, durably. The last segment stays: by it a log that is opened later knows its next number.
func (l *Log) Cut(low uint64) error {
	gone := l.segmentsBelow(low)
	if gone == 0 {
		return l.write(l.sync)
	}
	first := l.segments[gone]
	err := l.write(
		l.sync,
		func() error { return setMark(l.disk, first) },
		func() error { return removeAll(l.disk, namesOf(l.segments[:gone])) },
	)
	if err != nil {
		return err
	}
	// New lists, since a walk may be under way on the old ones.
	l.records = slices.Clone(l.records[first-l.records[0].LSN:])
	l.segments = slices.Clone(l.segments[gone:])
	return nil
}

// Next: the number that the next record has.
func (l *Log) Next() uint64 { return l.next }

// All: a walk through the records that are kept when it is begun, in their order.
func (l *Log) All() func(yield func(api.Record) bool) {
	return func(yield func(api.Record) bool) {
		for _, r := range l.records {
			if !yield(r) {
				return
			}
		}
	}
}

// write takes steps that write. When one has failed nothing is written any more: what the disk has is not known here from then on.
func (l *Log) write(steps ...func() error) error {
	if l.disk == nil {
		return api.ErrDown
	}
	if l.failed == nil {
		l.failed = inTurn(steps...)
	}
	return l.failed
}

func (l *Log) sync() error {
	if err := l.disk.Sync(); err != nil {
		return err
	}
	l.durable = l.next
	return nil
}

// makeRoom begins another segment, if the last one can take no more. All that is ahead of it is durable then: so whatever is lost, nothing of a segment is there without all that came ahead of it.
func (l *Log) makeRoom() error {
	if l.filled < api.Segment {
		return nil
	}
	if err := l.sync(); err != nil {
		return err
	}
	l.segments = append(l.segments, l.next)
	l.filled = 0
	return nil
}

// segmentsBelow tells how many segments lie below low whole, the last one not counted.
func (l *Log) segmentsBelow(low uint64) int {
	n := 0
	for n+1 < len(l.segments) && l.segments[n+1] <= low {
		n++
	}
	return n
}
