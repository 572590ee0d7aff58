package journal

import (
	"errors"
	"slices"
	"strconv"
	"strings"

	"shardcommit/api"
	"shardcommit/wire"
)

// The files of a log: its segments, each named by the number of its first record; the mark, that tells the first segment that is kept; and the mark that is to take its place.
const (
	segmentPrefix = "segment-"
	markName      = "mark"
	nextMarkName  = "mark.new"
)

func segmentName(first uint64) string {
	return segmentPrefix + strconv.FormatUint(first, 10)
}

func namesOf(segments []uint64) []string {
	var names []string
	for _, first := range segments {
		names = append(names, segmentName(first))
	}
	return names
}

// segmentsAmong tells the segments that have such names, the lowest first. Names of other forms are not the log's.
func segmentsAmong(names []string) []uint64 {
	var firsts []uint64
	for _, name := range names {
		digits, _ := strings.CutPrefix(name, segmentPrefix)
		first, err := strconv.ParseUint(digits, 10, 64)
		if err == nil && segmentName(first) == name {
			firsts = append(firsts, first)
		}
	}
	slices.Sort(firsts)
	return firsts
}

// readSegment reads the records of a segment; and tells how far it is filled. A beginning of one more may lie behind them: then it counts as full, since what is appended behind that could never be read.
func readSegment(d api.Disk, first uint64) ([]api.Record, int, error) {
	b, err := d.Read(segmentName(first))
	if err != nil {
		return nil, 0, err
	}
	records, filled := wire.Scan(b)
	for i, r := range records {
		if r.LSN != first+uint64(i) {
			return nil, 0, api.ErrFrame
		}
	}
	if filled < len(b) {
		filled = api.Segment
	}
	return records, filled, nil
}

// readMark tells the first segment that is kept: that of record 1, if no mark was ever set.
func readMark(d api.Disk) (uint64, error) {
	b, err := d.Read(markName)
	if errors.Is(err, api.ErrNone) {
		return 1, nil
	}
	if err != nil {
		return 0, err
	}
	records, size := wire.Scan(b)
	if len(records) != 1 || size != len(b) {
		return 0, api.ErrFrame
	}
	return records[0].LSN, nil
}

// setMark makes another segment the first that is kept, durably. Until the file is renamed the mark is what it was: no failure can leave a part of each.
func setMark(d api.Disk, first uint64) error {
	b, err := wire.EncodeRecord(api.Record{LSN: first})
	if err != nil {
		return err
	}
	return inTurn(
		func() error { return d.Write(nextMarkName, b) },
		d.Sync,
		func() error { return d.Rename(nextMarkName, markName) },
		d.Sync,
	)
}

// removeAll removes files, durably.
func removeAll(d api.Disk, names []string) error {
	for _, name := range names {
		if err := d.Remove(name); err != nil {
			return err
		}
	}
	return d.Sync()
}
