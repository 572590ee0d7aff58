package journal

import (
	"slices"

	"shardcommit/api"
)

// Open opens the log of a disk, over nothing or over what another log left. Segments that are of no use are removed.
func Open(d api.Disk) (*Log, error) {
	if d == nil {
		return nil, api.ErrDown
	}
	// As if the last segment were full: the first record begins one.
	l := &Log{disk: d, filled: api.Segment}
	useless, err := l.read()
	if err != nil {
		return nil, err
	}
	// What was read may not be durable yet. It must be ahead of the removing: a mark could be lost yet, and with it that files are useless.
	err = inTurn(l.sync, func() error { return removeAll(d, useless) })
	if err != nil {
		return nil, err
	}
	return l, nil
}

// read takes in what the disk has; and tells the segments that are of no use, by their names.
func (l *Log) read() ([]string, error) {
	names, err := l.disk.Names()
	if err != nil {
		return nil, err
	}
	l.next, err = readMark(l.disk)
	if err != nil {
		return nil, err
	}
	segments := segmentsAmong(names)
	begin, _ := slices.BinarySearch(segments, l.next)
	useless := namesOf(segments[:begin])
	for _, first := range segments[begin:] {
		kept, err := l.readOn(first)
		if err != nil {
			return nil, err
		}
		if !kept {
			useless = append(useless, segmentName(first))
		}
	}
	return useless, nil
}

// readOn takes in the segment that goes on with the log; false: it has no whole record, so that another is to take its name. ErrFrame, if records are missing ahead of it: no failure of power does that, and nothing is to be removed that cannot be explained.
func (l *Log) readOn(first uint64) (bool, error) {
	if first != l.next {
		return false, api.ErrFrame
	}
	records, filled, err := readSegment(l.disk, first)
	if err != nil || len(records) == 0 {
		return false, err
	}
	l.segments = append(l.segments, first)
	l.records = append(l.records, records...)
	l.next += uint64(len(records))
	l.filled = filled
	return true, nil
}
