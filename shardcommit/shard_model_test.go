package shardcommit_test

import (
	"fmt"
	"maps"
	"slices"
	"strings"

	"shardcommit/api"
)

// shardModel is what a shard must be, by the document's words, in another shape than the program's: each transaction has with it what it holds.
type shardModel struct {
	values map[string]string
	txns   map[uint64]*modelTxn
}

type modelTxn struct {
	state, done, idle int
	reads             map[string]bool
	writes            map[string]*string // nil: deleted
}

func newShardModel() *shardModel {
	return &shardModel{values: map[string]string{}, txns: map[uint64]*modelTxn{}}
}

func (t *modelTxn) holds(key string) bool {
	_, writes := t.writes[key]
	return writes || t.reads[key]
}

func (t *modelTxn) keys() []string {
	all := maps.Clone(t.reads)
	for key := range t.writes {
		all[key] = true
	}
	return slices.Sorted(maps.Keys(all))
}

// operate: a get, put or delete (P13, P14).
func (m *shardModel) operate(kind string, txn uint64, seq int, key, value string) (string, bool, error) {
	t := m.txns[txn]
	if t == nil {
		t = &modelTxn{reads: map[string]bool{}, writes: map[string]*string{}}
	}
	switch {
	case txn == 0:
		return "", false, api.ErrTxn
	case len(key) == 0 || len(key) > 16 || len(value) > 32:
		return "", false, api.ErrBig
	case t.state == api.Prepared || seq != t.done:
		return "", false, api.ErrState
	case t.state == api.Doomed:
		return "", false, api.ErrConflict
	case t.state == api.None && len(m.txns) == 12 || !t.holds(key) && len(t.keys()) == 4:
		return "", false, api.ErrMany
	}
	m.txns[txn] = t
	t.idle = 0
	for id, other := range m.txns {
		_, written := other.writes[key]
		if id != txn && (written || kind != "get" && other.holds(key)) {
			t.state = api.Doomed
			return "", false, api.ErrConflict
		}
	}
	t.state = api.Working
	t.done++
	switch kind {
	case "put":
		t.writes[key] = &value
		return "", false, nil
	case "delete":
		t.writes[key] = nil
		return "", false, nil
	}
	t.reads[key] = true
	if own, ok := t.writes[key]; ok && own == nil {
		return "", false, nil
	} else if ok {
		return *own, true, nil
	}
	got, ok := m.values[key]
	return got, ok, nil
}

func (m *shardModel) state(txn uint64) int {
	if m.txns[txn] == nil {
		return api.None
	}
	return m.txns[txn].state
}

// prepare: the vote, if the disk is well; does it write?
func (m *shardModel) prepare(txn uint64) (int, bool) {
	switch {
	case m.state(txn) == api.Prepared:
		return api.Yes, false
	case m.state(txn) == api.Working && len(m.txns[txn].writes) > 0:
		m.txns[txn].state = api.Prepared
		return api.Yes, true
	case m.state(txn) == api.Working:
		delete(m.txns, txn)
		return api.ReadOnly, false
	}
	delete(m.txns, txn)
	return api.No, false
}

// commit: of one that is prepared.
func (m *shardModel) commit(txn uint64) {
	for key, value := range m.txns[txn].writes {
		if value == nil {
			delete(m.values, key)
		} else {
			m.values[key] = *value
		}
	}
	delete(m.txns, txn)
}

func (m *shardModel) tick() {
	for id, t := range m.txns {
		t.idle++
		if t.idle == 16 && t.state != api.Prepared {
			delete(m.txns, id)
		}
		if t.state == api.Prepared {
			t.idle = 0
		}
	}
}

func (m *shardModel) waiting() []uint64 {
	var ids []uint64
	for id, t := range m.txns {
		if t.state == api.Prepared {
			ids = append(ids, id)
		}
	}
	slices.Sort(ids)
	return ids
}

func (m *shardModel) clone() *shardModel {
	other := &shardModel{values: maps.Clone(m.values), txns: map[uint64]*modelTxn{}}
	for id, t := range m.txns {
		own := *t
		own.reads, own.writes = maps.Clone(t.reads), maps.Clone(t.writes)
		other.txns[id] = &own
	}
	return other
}

// durable: what a shard has of this that is opened later, if all is durable.
func (m *shardModel) durable() *shardModel {
	then := &shardModel{values: maps.Clone(m.values), txns: map[uint64]*modelTxn{}}
	for _, id := range m.waiting() {
		t := m.txns[id]
		then.txns[id] = &modelTxn{state: api.Prepared, reads: maps.Clone(t.reads), writes: maps.Clone(t.writes)}
	}
	return then
}

// picture tells all that is durable: what is committed; of each that waits how it holds which keys, and what would be committed then.
func (m *shardModel) picture() string {
	b := &strings.Builder{}
	fmt.Fprint(b, m.values)
	for _, id := range m.waiting() {
		fmt.Fprint(b, "; ", id)
		for _, key := range m.txns[id].keys() {
			if _, ok := m.txns[id].writes[key]; ok {
				fmt.Fprintf(b, " writes %s", key)
			} else {
				fmt.Fprintf(b, " reads %s", key)
			}
		}
		then := m.durable()
		then.commit(id)
		fmt.Fprint(b, " -> ", then.values)
	}
	return b.String()
}
