package shardcommit_test

import (
	"fmt"
	"math/rand"
	"slices"
	"strings"
	"testing"

	"shardcommit/api"
	"shardcommit/shardcommit"
)

// coordinatorLife is a coordinator, and what it must be.
type coordinatorLife struct {
	life[shardcommit.Coordinator, *coordinatorModel]
	last   uint64 // the id that was handed out last
	passed uint64 // how many ids may be passed over behind it
	asked  bool   // Begin was called since the coordinator was opened
}

func newCoordinatorLife(t *testing.T) *coordinatorLife {
	v := &coordinatorLife{}
	v.t, v.d, v.may = t, newDisk(), []*coordinatorModel{newCoordinatorModel()}
	v.openIt, v.look = v.openOne, v.lookAtIt
	v.seen = func(d *disk) string { return committedOf(t, d, v.last) }
	v.open()
	return v
}

func (v *coordinatorLife) openOne(d api.Disk) (*shardcommit.Coordinator, error) {
	c, err := shardcommit.OpenCoordinator(d)
	if err == nil && v.asked {
		v.passed += 16
		v.asked = false
	}
	return c, err
}

// committedOf tells what the model's picture tells, of the coordinator that a disk has: it is asked over a copy of the disk.
func committedOf(t *testing.T, d *disk, last uint64) string {
	t.Helper()
	c := coordinatorOver(t, copyOf(d))
	if results, out := c.Results(), c.Out(); results != nil || out != nil {
		t.Fatalf("opened, it has %v, %v", results, out)
	}
	var known []uint64
	for txn := range last + 20 {
		if c.Status(txn) != api.None {
			known = append(known, txn)
		}
	}
	c.Tick()
	shards := map[uint64][]int{}
	for _, due := range c.Out() {
		shards[due.Txn] = append(shards[due.Txn], due.Shard)
	}
	b := &strings.Builder{}
	for _, txn := range known {
		fmt.Fprint(b, txn, " at ", shards[txn], "; ")
	}
	return b.String()
}

// lookAtIt: the coordinator is what it must be, but for what it has to tell.
func (v *coordinatorLife) lookAtIt() {
	v.t.Helper()
	for txn := v.last - min(v.last, 30); txn < v.last+5; txn++ {
		v.lookAt(txn)
	}
	for txn := range v.m.txns {
		v.lookAt(txn)
	}
}

func (v *coordinatorLife) lookAt(txn uint64) {
	v.t.Helper()
	if status, answer := v.k.Status(txn), v.k.Answer(txn); status != v.m.status(txn) || answer != v.m.answer(txn) {
		v.t.Fatalf("of %d the status is %d, the answer %d, want %d, %d", txn, status, answer, v.m.status(txn), v.m.answer(txn))
	}
}

// tells: what it has to tell is what it must be.
func (v *coordinatorLife) tells() {
	v.t.Helper()
	results, out := v.k.Results(), v.k.Out()
	if !slices.Equal(results, v.m.results) || !slices.Equal(out, v.m.out) {
		v.t.Fatalf("it tells %v, %v, want %v, %v", results, out, v.m.results, v.m.out)
	}
	if results != nil && len(results) == 0 || out != nil && len(out) == 0 {
		v.t.Fatalf("an empty list is not nil")
	}
	v.m.results, v.m.out = nil, nil
	v.check()
}

// begin: one more, and its id; 0: there is none.
func (v *coordinatorLife) begin() uint64 {
	v.t.Helper()
	calls := v.d.calls
	txn, err := v.k.Begin()
	called := v.d.calls != calls
	v.asked = true
	switch {
	case len(v.m.txns) == 12:
		if txn != 0 || err != api.ErrMany || called {
			v.t.Fatalf("a thirteenth: Begin = %d, %v", txn, err)
		}
		return 0
	case called && v.failed:
		v.t.Fatalf("Begin calls a disk that failed")
	case err != nil:
		if txn != 0 || !disks(err) || !called && !v.failed {
			v.t.Fatalf("Begin = %d, %v", txn, err)
		}
		v.failed = true
		v.check()
		return 0
	case txn <= v.last || txn > v.last+1+v.passed:
		v.t.Fatalf("Begin = %d behind %d, of %d at most passed over", txn, v.last, v.passed)
	}
	v.last, v.passed = txn, 0
	v.m.txns[txn] = &decision{state: api.Active}
	v.check()
	return txn
}

// still: a call that does not write said this; the disk was called so often ahead of it.
func (v *coordinatorLife) still(call string, calls int, got, want error) {
	v.t.Helper()
	if got != want || v.d.calls != calls {
		v.t.Fatalf("%s: %v, want %v; it calls the disk: %v", call, got, want, v.d.calls != calls)
	}
	v.check()
}

// inDoubt: a call about a transaction that is in doubt said this.
func (v *coordinatorLife) inDoubt(call string, calls int, got error) {
	v.t.Helper()
	if !disks(got) {
		v.t.Fatalf("%s of one in doubt: %v", call, got)
	}
	v.still(call, calls, got, got)
}

func (v *coordinatorLife) commit(txn uint64, shards ...int) {
	v.t.Helper()
	calls := v.d.calls
	err := v.k.Commit(txn, shards)
	v.still("Commit", calls, err, v.m.commit(txn, shards))
}

func (v *coordinatorLife) abort(txn uint64) {
	v.t.Helper()
	calls := v.d.calls
	err := v.k.Abort(txn)
	switch {
	case v.m.status(txn) == api.None:
		v.still("Abort", calls, err, api.ErrTxn)
	case v.m.status(txn) == api.Committed:
		v.still("Abort", calls, err, api.ErrState)
	case v.m.txns[txn].doubt:
		v.inDoubt("Abort", calls, err)
	default:
		v.m.abort(txn)
		v.still("Abort", calls, err, nil)
	}
}

func (v *coordinatorLife) vote(txn uint64, shard, vote int) {
	v.t.Helper()
	calls := v.d.calls
	err := v.k.Vote(txn, shard, vote)
	switch {
	case !v.m.counts(txn, shard, vote):
		v.still("Vote", calls, err, nil)
	case v.m.txns[txn].doubt:
		v.inDoubt("Vote", calls, err)
	case v.m.commits(txn, shard, vote):
		if !v.wrote(err, func(m *coordinatorModel) { m.vote(txn, shard, vote) }, true) {
			v.m.txns[txn].doubt = true
		}
	default:
		v.m.vote(txn, shard, vote)
		v.still("Vote", calls, err, nil)
	}
}

// yes: all these vote so, for a transaction that is begun here.
func (v *coordinatorLife) yes(shards ...int) uint64 {
	v.t.Helper()
	txn := v.begin()
	v.commit(txn, shards...)
	for _, shard := range shards {
		v.vote(txn, shard, api.Yes)
	}
	return txn
}

func (v *coordinatorLife) done(txn uint64, shards ...int) {
	v.t.Helper()
	for _, shard := range shards {
		calls := v.d.calls
		err := v.k.Done(txn, shard)
		if v.m.ends(txn, shard) {
			v.wrote(err, func(m *coordinatorModel) { m.done(txn, shard) }, false)
			continue
		}
		v.m.done(txn, shard)
		v.still("Done", calls, err, nil)
	}
}

func (v *coordinatorLife) checkpoint() {
	v.t.Helper()
	if !v.wrote(v.k.Checkpoint(), func(*coordinatorModel) {}, true) {
		return
	}
	if most := 2000 + 100*len(v.m.committed()); v.d.size() > most || len(v.d.pending) > 0 {
		v.t.Fatalf("behind Checkpoint the disk has %d bytes, want %d; %v", v.d.size(), most, v.d)
	}
}

func (v *coordinatorLife) ticks(n int) {
	v.t.Helper()
	calls := v.d.calls
	for range n {
		v.k.Tick()
		v.m.tick()
	}
	v.still("Tick", calls, nil, nil)
}

// filled: 1 is committed at 1, 3, 8, and 3 is done; 2 at 5; 3 at 1 (of 1, 2); 4 is voting, and the vote of 7 is awaited; 5 is active.
func (v *coordinatorLife) filled() {
	v.yes(1, 3, 8)
	v.done(1, 3)
	v.yes(5)
	v.begin()
	v.commit(3, 1, 2)
	v.vote(3, 2, api.ReadOnly)
	v.vote(3, 1, api.Yes)
	v.begin()
	v.commit(4, 2, 6, 7)
	v.vote(4, 6, api.Yes)
	v.vote(4, 2, api.ReadOnly)
	v.begin()
	v.tells()
}

// rounds: so many are committed and done that the log has some segments.
func (v *coordinatorLife) rounds(n int) {
	for range n {
		v.done(v.yes(1, 2, 3, 4, 5, 6, 7, 8), 1, 2, 3, 4, 5, 6, 7, 8)
	}
	v.tells()
}

// begins: so many are begun, and are aborted.
func (v *coordinatorLife) begins(n int) {
	for range n {
		v.abort(v.begin())
	}
	v.tells()
}

// P31, P32: each of these, with all that the disk can do at it.
func TestP31P32Everywhere(t *testing.T) {
	filled := (*coordinatorLife).filled
	begin := func(v *coordinatorLife) { v.begin() }
	everywhere(t, newCoordinatorLife, map[string]deed[*coordinatorLife]{
		"Begin first":             {func(v *coordinatorLife) {}, begin},
		"Begin of another block":  {func(v *coordinatorLife) { v.begins(16) }, begin},
		"Begin behind a restart":  {func(v *coordinatorLife) { v.filled(); v.d.lose(loseAll); v.open() }, begin},
		"Begin behind Dones":      {func(v *coordinatorLife) { v.filled(); v.begins(11); v.done(2, 5); v.done(1, 1, 8) }, begin},
		"Begin behind Checkpoint": {func(v *coordinatorLife) { v.filled(); v.begins(11); v.checkpoint() }, begin},
		"Vote":                    {filled, func(v *coordinatorLife) { v.vote(4, 7, api.Yes) }},
		"Vote of ReadOnly":        {filled, func(v *coordinatorLife) { v.vote(4, 7, api.ReadOnly) }},
		"Vote first": {
			func(v *coordinatorLife) { v.begin(); v.commit(1, 4) },
			func(v *coordinatorLife) { v.vote(1, 4, api.Yes) },
		},
		"Votes": {
			func(v *coordinatorLife) { v.filled(); v.commit(5, 1) },
			func(v *coordinatorLife) { v.vote(5, 1, api.Yes); v.vote(4, 7, api.Yes) },
		},
		"Vote behind Dones": {
			func(v *coordinatorLife) { v.filled(); v.done(2, 5); v.done(1, 1, 8) },
			func(v *coordinatorLife) { v.vote(4, 7, api.Yes) },
		},
		"Done":                  {filled, func(v *coordinatorLife) { v.done(2, 5) }},
		"Dones":                 {filled, func(v *coordinatorLife) { v.done(3, 1); v.done(1, 1, 8); v.done(2, 5) }},
		"Checkpoint of nothing": {func(v *coordinatorLife) {}, (*coordinatorLife).checkpoint},
		"Checkpoint":            {filled, (*coordinatorLife).checkpoint},
		"Checkpoint behind Dones": {
			func(v *coordinatorLife) { v.filled(); v.done(2, 5); v.done(1, 1, 8) },
			(*coordinatorLife).checkpoint,
		},
		"Checkpoint that cuts": {
			func(v *coordinatorLife) { v.filled(); v.rounds(11); v.done(2, 5) },
			(*coordinatorLife).checkpoint,
		},
		"Checkpoint behind another": {
			func(v *coordinatorLife) { v.filled(); v.checkpoint(); v.done(3, 1); v.vote(4, 7, api.Yes) },
			(*coordinatorLife).checkpoint,
		},
	})
}

// behindFailure: those that are known, and others as long as there are ids, go as far as they come.
func (v *coordinatorLife) behindFailure() {
	v.t.Helper()
	v.tells()
	v.checkpoint()
	for _, votes := range [][]int{{api.ReadOnly, api.ReadOnly}, {api.Yes, api.No}, {api.Yes, api.Yes}, {api.Yes}, nil} {
		if txn := v.begin(); txn > 0 {
			v.commit(txn, 3, 6)
			for i, vote := range votes {
				v.vote(txn, 3+3*i, vote)
			}
		}
	}
	for _, txn := range v.m.known() {
		for _, vote := range []int{api.Prepare, api.Yes, api.No} {
			v.vote(txn, 7, vote)
		}
		v.done(txn, 1, 3, 5, 8, 8)
	}
	v.ticks(3)
	v.tells()
	v.begin()
	for _, txn := range v.m.known() {
		if txn%2 == 0 {
			v.abort(txn)
		}
	}
	v.ticks(20)
	v.checkpoint()
	v.tells()
}

func (v *coordinatorLife) later() {
	v.t.Helper()
	known := v.m.known()
	v.yes(2, 4)
	v.ticks(1)
	for _, txn := range known {
		v.done(txn, v.m.txns[txn].left.rising()...)
	}
	v.begin()
	v.tells()
}

// P31 and P32, and P24 to P30 on the way.
func TestP31P32ManyLives(t *testing.T) { manyLives(t, newCoordinatorLife) }

func (v *coordinatorLife) step(r *rand.Rand) {
	txn := uint64(r.Intn(int(v.last) + 3))
	if known := v.m.known(); len(known) > 0 && r.Intn(8) > 0 {
		txn = known[r.Intn(len(known))]
	}
	shard := r.Intn(11) - 1
	switch n := r.Intn(24); {
	case n < 4:
		v.begin()
	case n < 8:
		v.commit(txn, someShards(r)...)
	case n < 15:
		v.someVotes(r, txn, shard)
	case n < 19:
		v.done(txn, shard)
		if t := v.m.txns[txn]; t != nil && r.Intn(3) > 0 {
			v.done(txn, t.left.rising()...)
		}
	case n < 20:
		v.abort(txn)
	case n < 21:
		v.ticks(r.Intn(4))
	case n < 23:
		v.tells()
	default:
		v.checkpoint()
	}
}

// someShards: mostly such as can be.
func someShards(r *rand.Rand) []int {
	var shards []int
	for range r.Intn(5) {
		shards = append(shards, 1+r.Intn(8))
	}
	if r.Intn(8) > 0 {
		slices.Sort(shards)
		return slices.Compact(shards)
	}
	return append(shards, r.Intn(12)-1)
}

// someVotes: of one shard, or of all that did not vote yet.
func (v *coordinatorLife) someVotes(r *rand.Rand, txn uint64, shard int) {
	v.t.Helper()
	votes := []int{api.Yes, api.Yes, api.Yes, api.Yes, api.Yes, api.ReadOnly, api.ReadOnly, r.Intn(11) - 1}
	v.vote(txn, shard, votes[r.Intn(8)])
	if v.m.status(txn) != api.Voting || r.Intn(3) == 0 {
		return
	}
	for _, shard := range v.m.txns[txn].awaited.rising() {
		v.vote(txn, shard, votes[r.Intn(7)])
	}
}

// P31: the error is the disk's own, at each call that writes; nothing turns; and from then on nothing is written.
func TestP31TheErrorIsTheDisks(t *testing.T) {
	for words, least := range map[string]int{"begin": 2, "vote 4 7 yes": 2, "vote 4 7 readonly": 2, "done 2 5": 1, "checkpoint": 13} {
		for at := 1; ; at++ {
			v := newCoordinatorLife(t)
			v.filled()
			v.rounds(11) // the ids up to 16 are used up
			v.d.failing(at, errBroken)
			got := ask(v.k, words)
			if v.d.failsAt > 0 {
				if at <= least {
					t.Errorf("%s writes %d times", words, at-1)
				}
				break
			}
			if got != "broken" {
				t.Fatalf("call %d fails: %s: %s", at, words, got)
			}
			quietDisk(v, func() {
				v.check()
				v.tells()
				wantAnswers(t, v.k, words+": broken", "begin: broken", "checkpoint: broken", "done 2 5: broken", "done 2 5: broken", "done 1 1: done")
				v.check()
				v.tells()
				wantAnswers(t, v.k, "commit 5 1 2: done", "vote 5 1 readonly: done", "vote 5 2 readonly: done", "results: 5 commit", "out: 5 prepare 1 2", "status 5: none",
					"vote 4 7 yes: broken", "vote 4 7 no: broken", "vote 4 7 readonly: broken", "abort 4: broken", "vote 4 6 no: done", "vote 4 7 ack: done", "status 4: voting", "answer 4: nothing",
					"ticks 1: done", "out: 1 commit 8; 2 commit 5; 3 commit 1", "abort 1: 4", "abort 5: 7", "commit 4 1: 4", "ticks 8: done", "status 4: voting", "results: -",
					"done 1 8: broken", "done 1 1: done", "status 1: committed", "answer 2: commit")
			})
		}
	}
}

// P24, P31: what the disk said to a Begin stays, and the ids that are left are handed out though the disk failed.
func TestP31BeginBehindAFailure(t *testing.T) {
	d := newDisk()
	c := coordinatorOver(t, d)
	wantAnswers(t, c, "begin: 1", "commit 1 1: done")
	d.failing(1, errBroken)
	wantAnswers(t, c, "vote 1 1 yes: broken")
	for id := 2; id <= 16; id++ {
		wantAnswers(t, c, fmt.Sprintf("begin: %d", id), fmt.Sprintf("abort %d: done", id))
	}
	wantAnswers(t, c, "begin: broken", "begin: broken", "status 17: none", "status 1: voting")
	c = coordinatorAgain(t, d)
	wantAnswers(t, c, "begin: 17", "status 1: none")
}

// P24: a Begin that failed hands nothing out, and by it at most sixteen ids are passed over.
func TestP31ABeginThatFailed(t *testing.T) {
	outcomes(func(choose func(n int) int) {
		d := newDisk()
		c := coordinatorOver(t, d)
		for id := range uint64(16 * choose(2)) {
			wantAnswers(t, c, fmt.Sprintf("begin: %d", id+1), fmt.Sprintf("abort %d: done", id+1))
		}
		c.Results()
		d.fail(choose, 2)
		was := d.writes
		txn, err := c.Begin()
		if txn != 0 || !disks(err) || d.writes == was {
			t.Fatalf("Begin = %d, %v", txn, err)
		}
		wantAnswers(t, c, "results: -", "out: -")
		d.loseSome(choose)
		c = coordinatorOver(t, d)
		if txn, err := c.Begin(); err != nil || txn != 1 && txn != 17 && txn != 33 {
			t.Fatalf("later Begin = %d, %v", txn, err)
		}
	})
}

// P32: the bound, with as many shards as can be, one Checkpoint behind the other.
func TestP32Bound(t *testing.T) {
	for _, ahead := range []int{0, 1, 10, 11, 12, 30, 100} {
		for _, txns := range []int{0, 1, 5, 12} {
			v := newCoordinatorLife(t)
			v.rounds(ahead)
			for range txns {
				v.yes(1, 2, 3, 4, 5, 6, 7, 8)
			}
			for range 4 {
				v.checkpoint() // sees to the bound
				if got, want := committedOf(t, v.d, v.last), v.m.picture(); got != want || len(v.m.committed()) != txns {
					t.Fatalf("behind Checkpoint one that is opened later has %s, want %s", got, want)
				}
			}
			v.tells()
			reopen(v)
			v.begin()
		}
	}
}

// P32: nothing turns but that Dones are durable: those of which all shards are done.
func TestP32NothingElseTurns(t *testing.T) {
	v := newCoordinatorLife(t)
	v.filled()
	v.ticks(5)
	v.done(2, 5)
	for range 3 {
		v.checkpoint()
		wantAnswers(t, v.k, "status 1: committed", "status 2: none", "status 3: committed", "status 4: voting", "status 5: active")
	}
	wantAnswers(t, v.k, "results: -")
	v.tells()
	v.ticks(2)
	v.tells()
	v.ticks(1) // the eighth
	v.tells()
	c := coordinatorAgain(t, v.d)
	wantAnswers(t, c, "status 1: committed", "status 2: none", "status 3: committed", "status 4: none", "status 5: none", "results: -", "out: -",
		"ticks 1: done", "out: 1 commit 1 3 8; 3 commit 1", "begin: 17")
}

// P31: a Done that something durable is behind counts.
func TestP31DoneAheadOfAVote(t *testing.T) {
	v := newCoordinatorLife(t)
	v.filled()
	v.done(3, 1)
	v.vote(4, 7, api.Yes)
	wantAnswers(t, coordinatorAgain(t, v.d), "status 1: committed", "status 2: committed", "status 3: none", "status 4: committed", "ticks 1: done", "out: 1 commit 1 3 8; 2 commit 5; 4 commit 6 7")
}
