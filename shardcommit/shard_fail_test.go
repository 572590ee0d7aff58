package shardcommit_test

import (
	"fmt"
	"maps"
	"math/rand"
	"slices"
	"strconv"
	"strings"
	"testing"

	"shardcommit/api"
	"shardcommit/shardcommit"
)

// shardLife is a shard, and what it must be.
type shardLife struct {
	life[shardcommit.Shard, *shardModel]
}

func newShardLife(t *testing.T) *shardLife {
	v := &shardLife{}
	v.t, v.d, v.may = t, newDisk(), []*shardModel{newShardModel()}
	v.openIt, v.look = shardcommit.OpenShard, v.lookAtIt
	v.seen = func(d *disk) string { return pictureOf(t, d, shardKeys) }
	v.open()
	return v
}

// operate: a get, put or delete. It never calls the disk.
func (v *shardLife) operate(kind string, txn uint64, seq int, key, value string) {
	v.t.Helper()
	calls := v.d.calls
	var got string
	var ok bool
	var err error
	switch kind {
	case "get":
		got, ok, err = v.k.Get(txn, seq, key)
	case "put":
		err = v.k.Put(txn, seq, key, value)
	case "delete":
		err = v.k.Delete(txn, seq, key)
	}
	want, wantOk, wantErr := v.m.operate(kind, txn, seq, key, value)
	if got != want || ok != wantOk || err != wantErr || v.d.calls != calls {
		v.t.Fatalf("%s of %d at %q = %q, %v, %v, want %q, %v, %v", kind, txn, key, got, ok, err, want, wantOk, wantErr)
	}
	v.check()
}

func (v *shardLife) put(txn uint64, key, value string) {
	v.t.Helper()
	v.operate("put", txn, v.next(txn), key, value)
}

// next: the seq of the transaction's next operation.
func (v *shardLife) next(txn uint64) int {
	if t := v.m.txns[txn]; t != nil {
		return t.done
	}
	return 0
}

func (v *shardLife) prepare(txn uint64) {
	v.t.Helper()
	calls := v.d.calls
	got, err := v.k.Prepare(txn)
	t := v.m.txns[txn]
	if t != nil && t.state == api.Working && len(t.writes) > 0 {
		if v.wrote(err, func(m *shardModel) { m.prepare(txn) }, true) != (got == api.Yes) || err != nil && got != 0 {
			v.t.Fatalf("Prepare(%d) = %d, %v", txn, got, err)
		}
		return
	}
	if want, _ := v.m.prepare(txn); got != want || err != nil || v.d.calls != calls {
		v.t.Fatalf("Prepare(%d) = %d, %v, want %d", txn, got, err, want)
	}
	v.check()
}

func (v *shardLife) commit(txn uint64) {
	v.t.Helper()
	calls := v.d.calls
	err := v.k.Commit(txn)
	if v.m.state(txn) == api.Prepared {
		v.wrote(err, func(m *shardModel) { m.commit(txn) }, true)
		return
	}
	want := error(nil)
	if v.m.state(txn) != api.None {
		want = api.ErrState
	}
	if err != want || v.d.calls != calls {
		v.t.Fatalf("Commit(%d) = %v, want %v", txn, err, want)
	}
	v.check()
}

func (v *shardLife) abort(txn uint64) {
	v.t.Helper()
	calls := v.d.calls
	err := v.k.Abort(txn)
	if v.m.state(txn) == api.Prepared {
		v.wrote(err, func(m *shardModel) { delete(m.txns, txn) }, false)
		return
	}
	if err != nil || v.d.calls != calls {
		v.t.Fatalf("Abort(%d) = %v", txn, err)
	}
	delete(v.m.txns, txn)
	v.check()
}

func (v *shardLife) checkpoint() {
	v.t.Helper()
	if !v.wrote(v.k.Checkpoint(), func(*shardModel) {}, true) {
		return
	}
	if most := 2000 + 200*len(v.m.values) + 400*len(v.m.waiting()); v.d.size() > most || len(v.d.pending) > 0 {
		v.t.Fatalf("behind Checkpoint the disk has %d bytes, want %d; %v", v.d.size(), most, v.d)
	}
}

func (v *shardLife) tick() {
	v.t.Helper()
	calls := v.d.calls
	v.k.Tick()
	v.m.tick()
	if v.d.calls != calls {
		v.t.Fatalf("Tick calls the disk")
	}
	v.check()
}

// lookAtIt: the shard is what it must be.
func (v *shardLife) lookAtIt() {
	v.t.Helper()
	got := map[string]string{}
	last := ""
	for key, value := range v.k.All() {
		if key <= last {
			v.t.Fatalf("All: %q behind %q", key, last)
		}
		got[key], last = value, key
	}
	if !maps.Equal(got, v.m.values) || !slices.Equal(v.k.Waiting(), v.m.waiting()) {
		v.t.Fatalf("%v, waiting %v, want %v, waiting %v", got, v.k.Waiting(), v.m.values, v.m.waiting())
	}
	for txn := range uint64(20) {
		if v.k.State(txn) != v.m.state(txn) {
			v.t.Fatalf("State(%d) = %d, want %d", txn, v.k.State(txn), v.m.state(txn))
		}
	}
}

// pictureOf tells what the model's picture tells, of the shard that a disk has: it is asked over copies of the disk.
func pictureOf(t *testing.T, d *disk, keys []string) string {
	t.Helper()
	b := &strings.Builder{}
	s := shardOver(t, copyOf(d))
	fmt.Fprint(b, valuesOf(s))
	for _, id := range s.Waiting() {
		s := shardOver(t, copyOf(d))
		for _, other := range s.Waiting() {
			if other != id && s.Abort(other) != nil {
				t.Fatalf("Abort fails")
			}
		}
		fmt.Fprint(b, "; ", id)
		for _, key := range keys {
			if s.Put(99, 0, key, "") != nil {
				s.Abort(99)
				if _, _, err := s.Get(99, 0, key); err != nil {
					fmt.Fprintf(b, " writes %s", key)
				} else {
					fmt.Fprintf(b, " reads %s", key)
				}
			}
			s.Abort(99)
		}
		if err := s.Commit(id); err != nil {
			t.Fatalf("Commit = %v", err)
		}
		fmt.Fprint(b, " -> ", valuesOf(s))
	}
	return b.String()
}

func valuesOf(s *shardcommit.Shard) map[string]string {
	return maps.Collect(s.All())
}

// shardKeys: the keys that the lives here work on, in their order.
var shardKeys = []string{"a", "b", "c", "d", "e", "f", "key of 16 bytes!"}

// filled: a and c are committed; 2 is prepared (reads a, writes b), 3 (deletes c) too; 4 works, 5 is doomed.
func (v *shardLife) filled() {
	v.put(1, "a", "one")
	v.put(1, "c", "see")
	v.prepare(1)
	v.commit(1)
	v.operate("get", 2, 0, "a", "")
	v.put(2, "b", "two")
	v.prepare(2)
	v.operate("delete", 3, 0, "c", "")
	v.prepare(3)
	v.operate("get", 4, 0, "a", "")
	v.put(4, "d", "four")
	v.put(5, "e", "five")
	v.put(5, "a", "five")
}

// rounds: so much is committed that the log has some segments.
func (v *shardLife) rounds(n int) {
	for i := range n {
		v.put(1, shardKeys[i%3+3], "round "+strconv.Itoa(i))
		v.put(1, "key of 16 bytes!", strings.Repeat("x", 32))
		v.prepare(1)
		v.commit(1)
	}
}

// P20 to P22: each of these, with all that the disk can do at it; and then again while the shard is opened anew.
func TestP20P21P22Everywhere(t *testing.T) {
	filled := (*shardLife).filled
	everywhere(t, newShardLife, map[string]deed[*shardLife]{
		"Prepare":       {filled, func(v *shardLife) { v.prepare(4) }},
		"Prepare first": {func(v *shardLife) { v.put(4, "a", "x") }, func(v *shardLife) { v.prepare(4) }},
		"Prepare behind Aborts": {
			func(v *shardLife) { v.filled(); v.abort(3); v.abort(2) },
			func(v *shardLife) { v.prepare(4) },
		},
		"Commit of a Put":    {filled, func(v *shardLife) { v.commit(2) }},
		"Commit of a Delete": {filled, func(v *shardLife) { v.commit(3) }},
		"Commit behind Abort": {
			func(v *shardLife) { v.filled(); v.abort(2) },
			func(v *shardLife) { v.commit(3) },
		},
		"Abort":  {filled, func(v *shardLife) { v.abort(2) }},
		"Aborts": {filled, func(v *shardLife) { v.abort(3); v.abort(2) }},
		"Abort and again": {
			func(v *shardLife) { v.filled(); v.abort(2); v.put(2, "b", "anew") },
			func(v *shardLife) { v.prepare(2) },
		},
		"Checkpoint of nothing": {func(v *shardLife) {}, (*shardLife).checkpoint},
		"Checkpoint":            {filled, (*shardLife).checkpoint},
		"Checkpoint behind Aborts": {
			func(v *shardLife) { v.filled(); v.abort(3); v.abort(2) },
			(*shardLife).checkpoint,
		},
		"Checkpoint that cuts": {
			func(v *shardLife) { v.rounds(6); v.filled(); v.abort(3) },
			(*shardLife).checkpoint,
		},
		"Checkpoint behind another": {
			func(v *shardLife) { v.filled(); v.checkpoint(); v.commit(2); v.abort(3) },
			(*shardLife).checkpoint,
		},
	})
}

func (v *shardLife) behindFailure() {
	v.t.Helper()
	v.put(6, "f", "x")
	v.operate("get", 6, 1, "f", "")
	for txn := range uint64(9) {
		if txn > 0 {
			v.prepare(txn)
			v.commit(txn)
		}
	}
	v.checkpoint()
	v.put(9, "e", "x")
	v.operate("get", 10, 0, "s", "")
	for txn := range uint64(11) {
		if txn > 0 {
			v.abort(txn)
		}
	}
	v.checkpoint()
	for range 20 {
		v.tick()
	}
}

func (v *shardLife) later() {
	v.t.Helper()
	v.put(7, "f", "later")
	v.prepare(7)
	v.commit(7)
}

// P20 to P22, and P13 to P19 on the way: many lives, of all kinds of calls, with failures anywhere.
func TestP20P21P22ManyLives(t *testing.T) { manyLives(t, newShardLife) }

func (v *shardLife) step(r *rand.Rand) {
	txn := uint64(1 + r.Intn(15))
	switch n := r.Intn(24); {
	case n < 13:
		seq := v.next(txn)
		if r.Intn(20) == 0 {
			seq += 1 - 2*r.Intn(2)
		}
		kind := []string{"get", "get", "put", "put", "delete"}[r.Intn(5)]
		v.operate(kind, txn, seq, shardKeys[r.Intn(len(shardKeys))], strings.Repeat(strconv.Itoa(r.Intn(10)), r.Intn(33)))
	case n < 17:
		v.prepare(txn)
	case n < 20:
		v.commit(txn)
	case n < 22:
		v.abort(txn)
	case n < 23:
		for range r.Intn(12) {
			v.tick()
		}
	default:
		v.checkpoint()
	}
}

// P21: the error is the disk's own, at each call that writes; nothing turns; and from then on nothing is written.
func TestP21TheErrorIsTheDisks(t *testing.T) {
	for _, words := range []string{"prepare 4", "commit 2", "commit 3", "abort 2", "checkpoint"} {
		for at := 1; ; at++ {
			v := newShardLife(t)
			v.rounds(6)
			v.filled()
			v.d.failing(at, errBroken)
			got := ask(v.k, words)
			if v.d.failsAt > 0 {
				if at == 1 || words == "checkpoint" && at < 15 {
					t.Errorf("%s writes %d times", words, at-1)
				}
				break
			}
			if got != "broken" {
				t.Fatalf("call %d fails: %s: %s", at, words, got)
			}
			v.check()
			calls := v.d.calls
			wantAnswers(t, v.k, words+": broken", "prepare 4: broken", "commit 2: broken", "commit 3: broken", "abort 2: broken", "abort 3: broken", "checkpoint: broken")
			v.check()
			wantAnswers(t, v.k, "prepare 2: yes", "prepare 5: no", "commit 4: 4", "commit 5: done", "get 6 0 a: one", "prepare 6: readonly", "put 6 0 z x: done", "abort 6: done", "abort 4: done", "get 7 0 d: round 3", "ticks 16: done", "state 4: none", "state 3: prepared")
			if v.d.calls != calls {
				t.Fatalf("behind a failure the disk is called")
			}
		}
	}
}

// longest: a key, or value, of all the bytes that it may have.
func longest(n int, bytes int) string {
	return (strconv.Itoa(n) + strings.Repeat(".", bytes))[:bytes]
}

// P22: the bound, with keys and values as long as can be, one Checkpoint behind the other.
func TestP22Bound(t *testing.T) {
	for _, keys := range []int{0, 1, 4, 41, 300} {
		for _, txns := range []int{0, 1, 12} {
			d := newDisk()
			s := shardOver(t, d)
			for i := range max(keys, 50) { // some are deleted again
				key := longest(i, api.MaxKey)
				wantAnswers(t, s, "put 1 0 "+key+" "+longest(i, api.MaxValue)+": done", "prepare 1: yes", "commit 1: done")
				if i >= keys {
					wantAnswers(t, s, "delete 1 0 "+key+": done", "prepare 1: yes", "commit 1: done")
				}
			}
			for i := range txns {
				for seq := range api.MaxLocks {
					wantAnswers(t, s, fmt.Sprintf("put %d %d %s %s: done", i+1, seq, longest(1000*i+seq, api.MaxKey), longest(i, api.MaxValue)))
				}
				wantAnswers(t, s, fmt.Sprintf("prepare %d: yes", i+1))
			}
			pairs, waiting := pairsOf(t, s), s.Waiting()
			for range 4 {
				if err := s.Checkpoint(); err != nil || d.size() > 2000+200*keys+400*txns || len(d.pending) > 0 {
					t.Fatalf("%d keys, %d prepared: Checkpoint = %v, the disk has %d bytes", keys, txns, err, d.size())
				}
				if !slices.Equal(pairsOf(t, s), pairs) || !slices.Equal(s.Waiting(), waiting) || len(pairs) != keys || len(waiting) != txns {
					t.Fatalf("behind Checkpoint there is something else")
				}
				if later := shardOver(t, copyOf(d)); !slices.Equal(pairsOf(t, later), pairs) || !slices.Equal(later.Waiting(), waiting) {
					t.Fatalf("behind Checkpoint there is something else later")
				}
			}
		}
	}
}

// P22: nothing turns but that Aborts are durable.
func TestP22NothingElseTurns(t *testing.T) {
	v := newShardLife(t)
	v.filled()
	v.abort(3)
	for range 3 {
		v.checkpoint()
		wantAnswers(t, v.k, "state 2: prepared", "state 3: none", "state 4: working", "state 5: doomed", "get 4 "+strconv.Itoa(v.next(4))+" d: four")
		v.m.txns[4].done++
	}
	reopen(v)
	wantShard(t, v.k, "a=one c=see", 2)
	wantAnswers(t, v.k, "commit 2: done")
	wantShard(t, shardAgain(t, v.d), "a=one b=two c=see")
}

// P22: the power fails, or the disk is full, at each call of a Checkpoint over many segments.
func TestP22LongCheckpoint(t *testing.T) {
	for at := 1; ; at++ {
		for how := range 8 {
			r := rand.New(rand.NewSource(int64(how)))
			d := newDisk()
			s := shardOver(t, d)
			for i := range 40 {
				wantAnswers(t, s, fmt.Sprintf("put 1 0 key%d %s: done", i, longest(i, 30)), "prepare 1: yes", "commit 1: done")
			}
			wantAnswers(t, s, "put 1 0 key1 x: done", "prepare 1: yes")
			pairs := pairsOf(t, s)
			d.falling(at)
			if how%2 == 1 {
				d.failing(at, api.ErrFull)
			}
			err := s.Checkpoint()
			if d.failsAt > 0 {
				if err != nil || at < 50 {
					t.Errorf("Checkpoint writes %d times, %v", at-1, err)
				}
				return
			}
			if !disks(err) {
				t.Fatalf("call %d fails: Checkpoint = %v", at, err)
			}
			d.lose([]func(int) int{loseAll, r.Intn, func(n int) int { return min(n-1, kept) }, r.Intn}[how/2])
			for range 2 {
				s = shardOver(t, d)
				if !slices.Equal(pairsOf(t, s), pairs) || !slices.Equal(s.Waiting(), []uint64{1}) {
					t.Fatalf("call %d fails (%d): later %v, waiting %v", at, how, pairsOf(t, s), s.Waiting())
				}
				d.lose(loseAll)
			}
			if err := s.Checkpoint(); err != nil {
				t.Fatalf("Checkpoint once more: %v", err)
			}
		}
	}
}
