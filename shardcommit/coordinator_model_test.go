package shardcommit_test

import (
	"fmt"
	"maps"
	"slices"
	"strings"

	"shardcommit/api"
)

// coordinatorModel is what a coordinator must be, by the document's words, in another shape than the program's: each transaction has with it sets of shards.
type coordinatorModel struct {
	txns    map[uint64]*decision
	results []api.Result
	out     []api.Due
}

type decision struct {
	state, ticks int
	awaited      shardSet // votes that did not come
	yes          shardSet
	left         shardSet // of those that said Yes: which are not done
	doubt        bool
}

type shardSet map[int]bool

func (s shardSet) rising() []int { return slices.Sorted(maps.Keys(s)) }

func newCoordinatorModel() *coordinatorModel {
	return &coordinatorModel{txns: map[uint64]*decision{}}
}

func (m *coordinatorModel) status(txn uint64) int {
	if m.txns[txn] == nil {
		return api.None
	}
	return m.txns[txn].state
}

func (m *coordinatorModel) answer(txn uint64) int {
	return map[int]int{api.None: api.Abort, api.Committed: api.Commit}[m.status(txn)]
}

func (m *coordinatorModel) known() []uint64 { return slices.Sorted(maps.Keys(m.txns)) }

func (m *coordinatorModel) committed() []uint64 {
	return slices.DeleteFunc(m.known(), func(txn uint64) bool { return m.status(txn) != api.Committed })
}

func (m *coordinatorModel) send(txn uint64, what int, shards ...int) {
	slices.Sort(shards)
	for _, shard := range shards {
		m.out = append(m.out, api.Due{Txn: txn, Shard: shard, What: what})
	}
}

func (m *coordinatorModel) became(txn uint64, what int) {
	m.results = append(m.results, api.Result{Txn: txn, What: what})
}

func (m *coordinatorModel) commit(txn uint64, shards []int) error {
	t := m.txns[txn]
	set := shardSet{}
	for _, shard := range shards {
		set[shard] = true
	}
	fit := len(shards) > 0 && slices.Equal(set.rising(), shards) && shards[0] >= 1 && shards[len(shards)-1] <= 8
	switch {
	case t == nil:
		return api.ErrTxn
	case t.state != api.Active:
		return api.ErrState
	case !fit:
		return api.ErrShard
	}
	*t = decision{state: api.Voting, awaited: set, yes: shardSet{}, left: shardSet{}}
	m.send(txn, api.Prepare, shards...)
	return nil
}

// abort: of one that is active or voting, and not in doubt.
func (m *coordinatorModel) abort(txn uint64) {
	t := m.txns[txn]
	m.became(txn, api.Abort)
	m.send(txn, api.Abort, append(t.awaited.rising(), t.yes.rising()...)...)
	delete(m.txns, txn)
}

// counts: would this vote count?
func (m *coordinatorModel) counts(txn uint64, shard, vote int) bool {
	return m.status(txn) == api.Voting && m.txns[txn].awaited[shard] && (vote == 2 || vote == 3 || vote == 4)
}

// commits: is it one by which the transaction is committed, durably?
func (m *coordinatorModel) commits(txn uint64, shard, vote int) bool {
	t := m.txns[txn]
	return m.counts(txn, shard, vote) && len(t.awaited) == 1 && (vote == 2 || vote == 4 && len(t.yes) > 0)
}

// vote: one that counts, of a transaction that is not in doubt.
func (m *coordinatorModel) vote(txn uint64, shard, vote int) {
	t := m.txns[txn]
	delete(t.awaited, shard)
	if vote == 3 {
		m.abort(txn)
		return
	}
	if vote == 2 {
		t.yes[shard], t.left[shard] = true, true
	}
	if len(t.awaited) > 0 {
		return
	}
	m.became(txn, api.Commit)
	if len(t.yes) == 0 {
		delete(m.txns, txn)
		return
	}
	t.state = api.Committed
	m.send(txn, api.Commit, t.yes.rising()...)
}

// ends: is this Done the one by which all are done?
func (m *coordinatorModel) ends(txn uint64, shard int) bool {
	return m.status(txn) == api.Committed && m.txns[txn].left[shard] && len(m.txns[txn].left) == 1
}

func (m *coordinatorModel) done(txn uint64, shard int) {
	if m.status(txn) != api.Committed {
		return
	}
	delete(m.txns[txn].left, shard)
	if len(m.txns[txn].left) == 0 {
		delete(m.txns, txn)
	}
}

func (m *coordinatorModel) tick() {
	for _, txn := range m.known() {
		t := m.txns[txn]
		if t.doubt {
			continue
		}
		switch t.state {
		case api.Voting:
			if t.ticks++; t.ticks == 8 {
				m.abort(txn)
			} else {
				m.send(txn, api.Prepare, t.awaited.rising()...)
			}
		case api.Committed:
			m.send(txn, api.Commit, t.left.rising()...)
		}
	}
}

func (m *coordinatorModel) clone() *coordinatorModel {
	other := &coordinatorModel{txns: map[uint64]*decision{}, results: slices.Clone(m.results), out: slices.Clone(m.out)}
	for txn, t := range m.txns {
		own := *t
		own.awaited, own.yes, own.left = maps.Clone(t.awaited), maps.Clone(t.yes), maps.Clone(t.left)
		other.txns[txn] = &own
	}
	return other
}

// durable: what a coordinator has of this that is opened later, if all is durable.
func (m *coordinatorModel) durable() *coordinatorModel {
	then := newCoordinatorModel()
	for _, txn := range m.committed() {
		yes := m.txns[txn].yes
		then.txns[txn] = &decision{state: api.Committed, yes: maps.Clone(yes), left: maps.Clone(yes)}
	}
	return then
}

// picture tells all that is durable: what is committed, and which shards are to be done.
func (m *coordinatorModel) picture() string {
	b := &strings.Builder{}
	for _, txn := range m.committed() {
		fmt.Fprint(b, txn, " at ", m.txns[txn].yes.rising(), "; ")
	}
	return b.String()
}
