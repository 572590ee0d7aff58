package coordinator

import (
	"iter"
	"slices"

	"shardcommit/api"
)

// transaction: the zero value is one that is not known.
type transaction struct {
	state int
	parts parts
	since uint64 // the Ticks up to Commit
	doubt error  // what the disk said when it was to be committed
}

// parts: by the numbers of shards.
type parts [api.MaxShards + 1]part

// part is what a shard has to do with a transaction.
type part uint8

const (
	none part = iota
	awaited
	saidYes
	saidNo
	readOnly
	done // it said Yes, and is
)

// partOf: that of a shard that voted so; none: it is no vote.
func partOf(vote int) part {
	switch vote {
	case api.Yes:
		return saidYes
	case api.No:
		return saidNo
	case api.ReadOnly:
		return readOnly
	}
	return none
}

func (p part) isAwaited() bool     { return p == awaited }
func (p part) mayBePrepared() bool { return p == awaited || p == saidYes }
func (p part) isToCommit() bool    { return p == saidYes }
func (p part) hasSaidYes() bool    { return p == saidYes || p == done }

// rise: are these shards, some at least, each above the one ahead of it?
func rise(shards []int) bool {
	last := 0
	for _, shard := range shards {
		if shard <= last || shard > api.MaxShards {
			return false
		}
		last = shard
	}
	return last > 0
}

// partsOf: each of these shards has this part.
func partsOf(shards []int, each part) parts {
	var all parts
	for _, shard := range shards {
		all[shard] = each
	}
	return all
}

// at: the part of a shard, whatever its number.
func (t transaction) at(shard int) part {
	if shard < 0 || shard >= len(t.parts) {
		return none
	}
	return t.parts[shard]
}

// with: the transaction, but for the part of one shard.
func (t transaction) with(shard int, p part) transaction {
	t.parts[shard] = p
	return t
}

// has: is any of its shards meant?
func (t transaction) has(meant func(part) bool) bool {
	return slices.ContainsFunc(t.parts[:], meant)
}

// shards walks through its shards that are meant; they rise.
func (t transaction) shards(meant func(part) bool) iter.Seq[int] {
	return func(yield func(shard int) bool) {
		for shard, p := range t.parts {
			if meant(p) && !yield(shard) {
				return
			}
		}
	}
}
