package shardcommit_test

import (
	"errors"
	"fmt"
	"math"
	"slices"
	"strconv"
	"strings"
	"sync"
	"testing"

	"shardcommit/api"
	"shardcommit/shardcommit"
)

func coordinatorOver(t *testing.T, d api.Disk) *shardcommit.Coordinator {
	t.Helper()
	return opened(t, shardcommit.OpenCoordinator, d)
}

func coordinatorAgain(t *testing.T, d *disk) *shardcommit.Coordinator {
	t.Helper()
	return again(t, shardcommit.OpenCoordinator, d)
}

// kindNames: of messages, by their numbers.
var kindNames = []string{"nothing", "prepare", "yes", "no", "readonly", "commit", "abort", "ack", "inquire"}

// askCoordinator calls a coordinator, by words ("commit 1 3 8", "vote 1 3 yes"), and tells what it answered: the id, the status, what it has to tell ("-": nothing), or the error by its number.
func askCoordinator(c *shardcommit.Coordinator, words string) string {
	w := append(strings.Fields(words), "", "", "")
	txn, _ := strconv.ParseUint(w[1], 10, 64)
	shard, _ := strconv.Atoi(w[2])
	switch w[0] {
	case "begin":
		id, err := c.Begin()
		if err != nil && id != 0 {
			return "an id beside an error"
		}
		return orError(strconv.FormatUint(id, 10), err)
	case "commit":
		return orError("done", c.Commit(txn, shardsIn(w[2:])))
	case "abort":
		return orError("done", c.Abort(txn))
	case "vote":
		return orError("done", c.Vote(txn, shard, voteOf(w[3])))
	case "done":
		return orError("done", c.Done(txn, shard))
	case "checkpoint":
		return orError("done", c.Checkpoint())
	case "status":
		return map[int]string{0: "none", 4: "active", 5: "voting", 6: "committed"}[c.Status(txn)]
	case "answer":
		return kindNames[c.Answer(txn)]
	case "results":
		return resultsIn(c.Results())
	case "out":
		return duesIn(c.Out())
	case "ticks":
		for range txn {
			c.Tick()
		}
		return "done"
	}
	return "no such call"
}

func shardsIn(words []string) []int {
	var all []int
	for _, word := range words {
		if n, err := strconv.Atoi(word); err == nil {
			all = append(all, n)
		}
	}
	return all
}

// voteOf: by its name, or by a number.
func voteOf(word string) int {
	if n, err := strconv.Atoi(word); err == nil {
		return n
	}
	return slices.Index(kindNames, word)
}

// resultsIn tells results: "1 commit; 2 abort".
func resultsIn(results []api.Result) string {
	if results == nil {
		return "-"
	}
	var all []string
	for _, r := range results {
		all = append(all, fmt.Sprint(r.Txn, " ", kindNames[r.What]))
	}
	return strings.Join(all, "; ")
}

// duesIn tells what is to be sent, and to whom: "1 prepare 1 3; 2 commit 5".
func duesIn(dues []api.Due) string {
	if dues == nil {
		return "-"
	}
	b := &strings.Builder{}
	last := api.Due{}
	for _, due := range dues {
		if due.Txn != last.Txn || due.What != last.What {
			fmt.Fprintf(b, "; %d %s", due.Txn, kindNames[due.What])
		}
		fmt.Fprintf(b, " %d", due.Shard)
		last = due
	}
	return strings.TrimPrefix(b.String(), "; ")
}

func TestP23EmptyCoordinator(t *testing.T) {
	d := newDisk()
	for range 3 {
		c := coordinatorOver(t, d)
		wantAnswers(t, c, "results: -", "out: -", "status 0: none", "status 1: none", "status 18446744073709551615: none", "ticks 20: done", "results: -", "out: -")
		d.lose(loseAll)
	}
	wantAnswers(t, coordinatorOver(t, d), "begin: 1", "begin: 2")
}

func TestP23NoDisk(t *testing.T) {
	if c, err := shardcommit.OpenCoordinator(nil); c != nil || err != api.ErrDown {
		t.Errorf("OpenCoordinator(nil) = %v, %v", c != nil, err)
	}
	var c shardcommit.Coordinator
	wantAnswers(t, &c, "begin: 10", "commit 1 1: 7", "abort 1: 7", "vote 1 1 yes: done", "done 1 1: done", "answer 1: abort", "ticks 9: done", "status 1: none", "results: -", "out: -", "checkpoint: 10")
}

// P23: the error is what the disk said, and a coordinator that is opened later has all.
func TestP23TheDiskSaysAnError(t *testing.T) {
	left := func() *disk {
		v := newCoordinatorLife(t)
		v.filled()
		v.rounds(11)
		v.d.failing(12, errBroken) // the mark is set, and the files below it are there still
		if err := v.k.Checkpoint(); err != errBroken {
			t.Fatalf("Checkpoint = %v", err)
		}
		return v.d
	}
	failsToOpen(t, left, shardcommit.OpenCoordinator, func(c *shardcommit.Coordinator) {
		wantAnswers(t, c, "status 1: committed", "status 2: committed", "status 3: committed", "status 4: none", "status 6: none", "ticks 1: done", "out: 1 commit 1 3 8; 2 commit 5; 3 commit 1", "begin: 17")
	})
}

// P24: twelve are known, in all states; a thirteenth only when one of them is not known any more.
func TestP24Many(t *testing.T) {
	for _, free := range []string{"abort 3: done", "abort 12: done", "vote 3 1 no: done", "vote 3 1 readonly: done", "done 1 5: done"} {
		d := newDisk()
		c := coordinatorOver(t, d)
		for id := 1; id <= 12; id++ {
			wantAnswers(t, c, fmt.Sprintf("begin: %d", id), fmt.Sprintf("status %d: active", id), fmt.Sprintf("status %d: none", id+1))
		}
		wantAnswers(t, c, "begin: 5", "commit 1 5: done", "vote 1 5 yes: done", "commit 2 4 5: done", "vote 2 5 yes: done", "commit 3 1: done", "begin: 5",
			"status 1: committed", "status 2: voting", "status 3: voting", "status 13: none", "status 0: none",
			free, "begin: 13", "begin: 5", "abort 13: done", "begin: 14", "begin: 5")
	}
}

// P24: one that is in doubt is known, and takes its place; Ticks end those that are voting.
func TestP24ManyInDoubt(t *testing.T) {
	d := newDisk()
	c := coordinatorOver(t, d)
	for id := 1; id <= 12; id++ {
		wantAnswers(t, c, fmt.Sprintf("begin: %d", id), fmt.Sprintf("commit %d 2: done", id))
	}
	d.failing(1, api.ErrFull)
	wantAnswers(t, c, "vote 7 2 yes: 9", "begin: 5", "ticks 8: done", "status 7: voting", "status 6: none", "status 8: none")
	for id := 13; id <= 16; id++ {
		wantAnswers(t, c, fmt.Sprintf("begin: %d", id))
	}
	wantAnswers(t, c, "begin: 9", "begin: 9")
}

// P24: ids rise by one, and behind restarts none is handed out again; at most sixteen are passed over.
func TestP24Ids(t *testing.T) {
	for life := range 40 {
		d := newDisk()
		c := coordinatorOver(t, d)
		last := uint64(0)
		for round := range 12 {
			for i := range life {
				txn, err := c.Begin()
				if err != nil || txn <= last || i > 0 && txn != last+1 || txn > last+17 || round == 0 && txn != last+1 {
					t.Fatalf("%d to a life: Begin = %d, %v behind %d", life, txn, err, last)
				}
				last = txn
				wantAnswers(t, c, fmt.Sprintf("abort %d: done", txn))
			}
			switch round % 3 {
			case 1:
				wantAnswers(t, c, "checkpoint: done")
			case 2: // opened and opened again: that passes nothing over
				c = coordinatorAgain(t, d)
				wantAnswers(t, c, "checkpoint: done")
			}
			c = coordinatorAgain(t, d)
		}
		wantAnswers(t, c, "results: -", "out: -")
	}
}

// P25: each error, and which is named first where several apply.
func TestP25Commit(t *testing.T) {
	c := coordinatorOver(t, newDisk())
	wantAnswers(t, c, "begin: 1", "begin: 2", "begin: 3", "commit 1 4: done", "vote 1 4 yes: done", "commit 2 4 5: done", "results: 1 commit", "out: 1 prepare 4; 1 commit 4; 2 prepare 4 5")
	wrong := [][]int{nil, {}, {0}, {9}, {-1}, {1, 9}, {0, 1}, {1, 1}, {2, 1}, {1, 3, 2}, {1, 2, 3, 3}, {math.MinInt}, {math.MaxInt}, {1, math.MaxInt}, {8, 8}, make([]int, 100000), {1, 2, 3, 4, 5, 6, 7, 8, 9}, {0, 1, 2, 3, 4, 5, 6, 7, 8}}
	for _, shards := range append(wrong, []int{1}, []int{1, 2, 8}) {
		for txn, want := range map[uint64]error{0: api.ErrTxn, 4: api.ErrTxn, math.MaxUint64: api.ErrTxn, 1: api.ErrState, 2: api.ErrState} {
			if err := c.Commit(txn, shards); err != want {
				t.Errorf("Commit(%d, %d shards) = %v, want %v", txn, len(shards), err, want)
			}
		}
	}
	for _, shards := range wrong {
		if err := c.Commit(3, shards); err != api.ErrShard || c.Status(3) != api.Active {
			t.Errorf("Commit of %d shards = %v, status %d", len(shards), err, c.Status(3))
		}
	}
	wantAnswers(t, c, "out: -", "results: -", "status 1: committed", "status 2: voting", "commit 3 1 2 3 4 5 6 7 8: done", "status 3: voting", "out: 3 prepare 1 2 3 4 5 6 7 8", "results: -", "commit 3 1: 4")
}

// P26: in each state; who is sent Abort.
func TestP26Abort(t *testing.T) {
	c := coordinatorOver(t, newDisk())
	wantAnswers(t, c, "abort 0: 7", "abort 1: 7", "begin: 1", "abort 1: done", "results: 1 abort", "out: -", "status 1: none", "abort 1: 7",
		"begin: 2", "commit 2 1 4 8: done", "out: 2 prepare 1 4 8", "abort 2: done", "results: 2 abort", "out: 2 abort 1 4 8", "abort 2: 7",
		"begin: 3", "commit 3 1 2 3 4: done", "vote 3 2 readonly: done", "vote 3 4 yes: done", "out: 3 prepare 1 2 3 4", "abort 3: done", "results: 3 abort", "out: 3 abort 1 3 4",
		"begin: 4", "commit 4 2: done", "vote 4 2 yes: done", "results: 4 commit", "out: 4 prepare 2; 4 commit 2", "abort 4: 4", "status 4: committed", "done 4 2: done", "abort 4: 7",
		"vote 3 1 yes: done", "done 3 4: done", "commit 3 1: 7", "results: -", "out: -")
}

// P27: which votes count, and what they do.
func TestP27Vote(t *testing.T) {
	for _, c := range []struct {
		votes, status, results, out string
	}{
		{"", "voting", "-", "-"},
		{"1yes 3yes 8yes", "committed", "1 commit", "1 commit 1 3 8"},
		{"8yes 3yes 1yes", "committed", "1 commit", "1 commit 1 3 8"},
		{"8readonly 3yes 1readonly", "committed", "1 commit", "1 commit 3"},
		{"3yes 8yes 1readonly", "committed", "1 commit", "1 commit 3 8"},
		{"1readonly 3readonly 8readonly", "none", "1 commit", "-"},
		{"1no", "none", "1 abort", "1 abort 3 8"},
		{"3no", "none", "1 abort", "1 abort 1 8"},
		{"1yes 8readonly 3no", "none", "1 abort", "1 abort 1"},
		{"1readonly 8readonly 3no", "none", "1 abort", "-"},
		{"1yes 3yes 8no", "none", "1 abort", "1 abort 1 3"},
		{"8no 1yes 3yes 8yes", "none", "1 abort", "1 abort 1 3"},
		{"1yes 1no 1readonly 3yes 3no", "voting", "-", "-"},
		{"1readonly 1yes 3readonly 8readonly", "none", "1 commit", "-"},
		{"2no 4no 7no 0no 9no -1no 9223372036854775807no -9223372036854775808no", "voting", "-", "-"},
		{"1nothing 1prepare 1commit 1abort 1ack 1inquire 1yes 3yes", "voting", "-", "-"},
		{"1prepare 3abort 8ack 1yes 3yes 8yes", "committed", "1 commit", "1 commit 1 3 8"},
		{"1yes 3yes 8yes 1no 3no 8no 1yes", "committed", "1 commit", "1 commit 1 3 8"},
	} {
		d := newDisk()
		k := coordinatorOver(t, d)
		wantAnswers(t, k, "begin: 1", "begin: 2", "vote 1 1 no: done", "status 1: active", "commit 1 1 3 8: done", "out: 1 prepare 1 3 8")
		for _, vote := range strings.Fields(c.votes) {
			shard := strings.TrimRight(vote, "abcdefghijklmnopqrstuvwxyz")
			wantAnswers(t, k, "vote 2 "+shard+" "+vote[len(shard):]+": done", "vote 3 "+shard+" "+vote[len(shard):]+": done", "vote 1 "+shard+" "+vote[len(shard):]+": done")
		}
		for _, vote := range []int{math.MinInt, math.MaxInt, -1, 0, 1, 5, 9, 1 << 32, 1<<32 + 3, 256 + 3} {
			wantAnswers(t, k, fmt.Sprintf("vote 1 8 %d: done", vote))
		}
		t.Log(c.votes)
		wantAnswers(t, k, "status 1: "+c.status, "results: "+c.results, "out: "+c.out, "status 2: active")
		if c.status != "committed" {
			c.status = "none"
		}
		wantAnswers(t, coordinatorAgain(t, d), "status 1: "+c.status, "results: -", "out: -")
	}
}

// P27: in doubt, behind a disk that fails at the vote, or had failed ahead of it.
func TestP27InDoubt(t *testing.T) {
	for _, failed := range []string{"vote 1 3 yes", "vote 1 3 readonly", "done 2 5", "checkpoint"} {
		for at := 1; at <= 2; at++ {
			d := newDisk()
			c := coordinatorOver(t, d)
			wantAnswers(t, c, "begin: 1", "begin: 2", "begin: 3", "begin: 4", "commit 2 5: done", "vote 2 5 yes: done",
				"commit 1 1 3 7: done", "vote 1 1 yes: done", "vote 1 7 readonly: done", "commit 3 3: done", "results: 2 commit", "out: 2 prepare 5; 2 commit 5; 1 prepare 1 3 7; 3 prepare 3")
			d.failing(at, errBroken)
			if failed == "done 2 5" {
				d.failing(1, errBroken) // it writes once
			}
			wantAnswers(t, c, failed+": broken", "vote 1 3 yes: broken", "vote 1 3 yes: broken", "vote 1 3 no: broken", "vote 1 3 readonly: broken", "abort 1: broken",
				"vote 1 1 no: done", "vote 1 7 no: done", "vote 1 2 no: done", "vote 1 3 commit: done", "done 1 1: done", "done 1 3: done", "commit 1 1: 4",
				"status 1: voting", "answer 1: nothing", "results: -", "out: -",
				"ticks 1: done", "out: 2 commit 5; 3 prepare 3", "ticks 6: done", "results: -", "out: "+strings.Repeat("2 commit 5; 3 prepare 3; ", 5)+"2 commit 5; 3 prepare 3",
				"ticks 1: done", "results: 3 abort", "out: 2 commit 5; 3 abort 3", "ticks 40: done", "status 1: voting", "abort 1: broken", "vote 1 3 no: broken", "abort 4: done", "results: 4 abort")
			d.lose(loseAll)
			wantAnswers(t, coordinatorOver(t, d), "status 1: none", "answer 1: abort", "status 2: committed")
		}
	}
}

// P27: without a Yes nothing is to be durable: so a disk that failed leaves no doubt.
func TestP27NoDoubtWithoutYes(t *testing.T) {
	d := newDisk()
	c := coordinatorOver(t, d)
	wantAnswers(t, c, "begin: 1", "begin: 2", "commit 1 1 2: done", "commit 2 1 2: done")
	d.failing(1, errBroken)
	wantAnswers(t, c, "checkpoint: broken", "vote 1 2 readonly: done", "vote 1 1 readonly: done", "vote 2 1 yes: done", "status 2: voting", "vote 2 2 no: done",
		"results: 1 commit; 2 abort", "out: 1 prepare 1 2; 2 prepare 1 2; 2 abort 1", "status 1: none", "status 2: none")
}

// P28: of each state, of a shard that said Yes and of others.
func TestP28Done(t *testing.T) {
	c := coordinatorOver(t, newDisk())
	wantAnswers(t, c, "done 0 1: done", "done 1 1: done", "begin: 1", "done 1 1: done", "status 1: active",
		"commit 1 1 3 5 8: done", "vote 1 1 yes: done", "vote 1 3 readonly: done", "done 1 1: done", "done 1 3: done", "done 1 5: done", "status 1: voting", "vote 1 8 yes: done", "vote 1 5 yes: done", "results: 1 commit", "out: 1 prepare 1 3 5 8; 1 commit 1 5 8",
		"done 1 3: done", "done 1 2: done", "done 1 0: done", "done 1 9: done", "done 1 -1: done", "done 1 9223372036854775807: done", "done 1 -9223372036854775808: done", "done 2 1: done", "done 18446744073709551615 1: done",
		"ticks 1: done", "out: 1 commit 1 5 8", "done 1 8: done", "done 1 8: done", "done 1 8: done", "status 1: committed", "ticks 1: done", "out: 1 commit 1 5",
		"vote 1 8 no: done", "done 1 1: done", "ticks 1: done", "out: 1 commit 5", "abort 1: 4", "answer 1: commit", "done 1 5: done", "status 1: none", "answer 1: abort", "done 1 5: done", "ticks 1: done", "out: -", "results: -")
}

func TestP29Answer(t *testing.T) {
	d := newDisk()
	c := coordinatorOver(t, d)
	wantAnswers(t, c, "answer 0: abort", "answer 1: abort", "answer 18446744073709551615: abort", "begin: 1", "answer 1: nothing", "answer 2: abort",
		"commit 1 1 2: done", "answer 1: nothing", "vote 1 1 yes: done", "answer 1: nothing", "vote 1 2 yes: done", "answer 1: commit", "done 1 1: done", "answer 1: commit")
	c = coordinatorAgain(t, d)
	wantAnswers(t, c, "answer 1: commit", "answer 2: abort", "done 1 1: done", "answer 1: commit", "done 1 2: done", "answer 1: abort",
		"begin: 17", "abort 17: done", "answer 17: abort", "begin: 18", "commit 18 1: done", "vote 18 1 readonly: done", "answer 18: abort")
}

// P30: the eighth Tick since Commit; what is sent anew, by ids.
func TestP30Ticks(t *testing.T) {
	c := coordinatorOver(t, newDisk())
	for id := 1; id <= 11; id++ {
		wantAnswers(t, c, fmt.Sprintf("begin: %d", id))
	}
	wantAnswers(t, c, "ticks 50: done", "out: -", "results: -", // nobody asked for their votes
		"commit 10 3 4: done", "ticks 2: done", "out: 10 prepare 3 4 3 4 3 4",
		"commit 9 1 2: done", "commit 2 5 6 7: done", "commit 11 8: done", "vote 11 8 yes: done", "commit 1 1: done", "results: 11 commit",
		"out: 9 prepare 1 2; 2 prepare 5 6 7; 11 prepare 8; 11 commit 8; 1 prepare 1",
		"ticks 1: done", "out: 1 prepare 1; 2 prepare 5 6 7; 9 prepare 1 2; 10 prepare 3 4; 11 commit 8",
		"vote 2 6 yes: done", "vote 9 1 readonly: done", "vote 10 4 yes: done", "ticks 1: done", "out: 1 prepare 1; 2 prepare 5 7; 9 prepare 2; 10 prepare 3; 11 commit 8",
		"ticks 3: done", "results: -", "out: "+strings.Repeat("1 prepare 1; 2 prepare 5 7; 9 prepare 2; 10 prepare 3; 11 commit 8; ", 2)+"1 prepare 1; 2 prepare 5 7; 9 prepare 2; 10 prepare 3; 11 commit 8",
		"ticks 1: done", "results: 10 abort", "out: 1 prepare 1; 2 prepare 5 7; 9 prepare 2; 10 abort 3 4; 11 commit 8", "status 10: none", // its eighth
		"ticks 1: done", "results: -", "out: 1 prepare 1; 2 prepare 5 7; 9 prepare 2; 11 commit 8", "status 9: voting",
		"vote 1 1 yes: done", "ticks 1: done", "results: 1 commit; 2 abort; 9 abort", "out: 1 commit 1 1; 2 abort 5 6 7; 9 abort 2; 11 commit 8",
		"done 1 1: done", "ticks 2: done", "results: -", "out: 11 commit 8 8", "ticks 100: done", "status 11: committed", "status 3: active")
}

// P30: what is committed at the last moment is not aborted.
func TestP30TheLastMoment(t *testing.T) {
	for ticks := range 10 {
		c := coordinatorOver(t, newDisk())
		wantAnswers(t, c, "ticks 3: done", "begin: 1", "ticks 3: done", "commit 1 6: done", fmt.Sprintf("ticks %d: done", ticks), "vote 1 6 yes: done")
		if ticks < 8 {
			wantAnswers(t, c, "results: 1 commit", "status 1: committed", "ticks 20: done", "results: -")
		} else {
			wantAnswers(t, c, "results: 1 abort", "status 1: none")
		}
	}
}

// P30, P2: Results and Out since the last call; the lists are the caller's.
func TestP30Lists(t *testing.T) {
	c := coordinatorOver(t, newDisk())
	wantAnswers(t, c, "begin: 1", "begin: 2", "begin: 3", "commit 2 1 2: done", "abort 3: done", "vote 2 1 no: done")
	results, out := c.Results(), c.Out()
	wantAnswers(t, c, "results: -", "out: -", "abort 1: done", "begin: 4", "commit 4 7 8: done")
	if got, want := resultsIn(results), "3 abort; 2 abort"; got != want {
		t.Errorf("Results = %s, want %s", got, want)
	}
	if got, want := duesIn(out), "2 prepare 1 2; 2 abort 2"; got != want {
		t.Errorf("Out = %s, want %s", got, want)
	}
	for i := range results[:cap(results)] {
		results[:cap(results)][i] = api.Result{}
	}
	for i := range out[:cap(out)] {
		out[:cap(out)][i] = api.Due{}
	}
	wantAnswers(t, c, "results: 1 abort", "results: -", "out: 4 prepare 7 8", "out: -")
}

// P2: the shards that are handed in are read, not kept and not written into.
func TestP2ShardsAreHandedIn(t *testing.T) {
	c := coordinatorOver(t, newDisk())
	wantAnswers(t, c, "begin: 1", "begin: 2")
	list := []int{2, 5, 7, 99, 98}
	if err := c.Commit(1, list[:3]); err != nil || !slices.Equal(list, []int{2, 5, 7, 99, 98}) {
		t.Errorf("Commit = %v, the list is %v", err, list)
	}
	list[0], list[1], list[2] = 3, 4, 1
	if err := c.Commit(2, list[:3]); err != api.ErrShard || !slices.Equal(list, []int{3, 4, 1, 99, 98}) {
		t.Errorf("Commit = %v, the list is %v", err, list)
	}
	wantAnswers(t, c, "out: 1 prepare 2 5 7", "vote 1 3 no: done", "vote 1 7 yes: done", "ticks 1: done", "out: 1 prepare 2 5", "abort 1: done", "out: 1 abort 2 5 7")
}

// The document's example.
func TestExampleOfACoordinator(t *testing.T) {
	c := coordinatorOver(t, newDisk())
	wantAnswers(t, c, "begin: 1", "commit 1 1 3 8: done", "out: 1 prepare 1 3 8", "vote 1 1 yes: done", "vote 1 8 readonly: done", "vote 1 3 no: done", "results: 1 abort", "out: 1 abort 1",
		"begin: 2", "commit 2 1 3 8: done", "out: 2 prepare 1 3 8", "vote 2 8 readonly: done", "vote 2 3 yes: done", "vote 2 1 readonly: done", "results: 2 commit", "out: 2 commit 3",
		"ticks 2: done", "out: 2 commit 3 3", "done 2 3: done", "ticks 2: done", "out: -")
}

// P2: coordinators over different disks know nothing of one another.
func TestP2CoordinatorsAtTheSameTime(t *testing.T) {
	var wait sync.WaitGroup
	var errs [8]error
	for i := range errs {
		wait.Go(func() {
			c, err := shardcommit.OpenCoordinator(newDisk())
			for n := range 40 {
				txn, why := c.Begin()
				err = errors.Join(err, why, c.Commit(txn, []int{1, 2 + i%7}), c.Vote(txn, 1, api.Yes), c.Vote(txn, 2+i%7, api.Yes))
				if c.Tick(); txn != uint64(n+1) || c.Answer(txn) != api.Commit || len(c.Results()) != 1 || len(c.Out()) != 6 {
					err = errors.Join(err, errBroken)
				}
				err = errors.Join(err, c.Done(txn, 2+i%7), c.Done(txn, 1))
				if n%7 == 0 {
					err = errors.Join(err, c.Checkpoint())
				}
			}
			errs[i] = err
		})
	}
	wait.Wait()
	for i, err := range errs {
		if err != nil {
			t.Errorf("coordinator %d: %v", i, err)
		}
	}
}

// A disk may have records that no coordinator left: that is told, and nothing panics.
func TestP1RecordsThatNoCoordinatorLeft(t *testing.T) {
	id := func(n byte) string { return "\x00\x00\x00\x00\x00\x00\x00" + string([]byte{n}) }
	limit := api.Record{Kind: 1, Payload: id(17)}
	for name, records := range map[string][]api.Record{
		"a kind that there is not":       {{Kind: 0}},
		"another":                        {limit, {Kind: 4, Payload: id(7)}},
		"a limit that is cut off":        {{Kind: 1, Payload: id(17)[:7]}},
		"a limit, and more":              {{Kind: 1, Payload: id(17) + "x"}},
		"a limit of 0":                   {{Kind: 1, Payload: id(0)}},
		"a limit that falls":             {limit, {Kind: 1, Payload: id(16)}},
		"committed, and nothing":         {limit, {Kind: 2}},
		"committed, and no shards":       {limit, {Kind: 2, Payload: id(7)}},
		"committed of 0":                 {limit, {Kind: 2, Payload: id(0) + "\x01"}},
		"committed above the limit":      {limit, {Kind: 2, Payload: id(17) + "\x01"}},
		"committed, and shard 0":         {limit, {Kind: 2, Payload: id(7) + "\x00\x01"}},
		"committed, and shard 9":         {limit, {Kind: 2, Payload: id(7) + "\x01\x09"}},
		"committed, and one shard twice": {limit, {Kind: 2, Payload: id(7) + "\x03\x03"}},
		"committed twice":                {limit, {Kind: 2, Payload: id(7) + "\x01"}, {Kind: 2, Payload: id(7) + "\x01"}},
		"done, and not committed":        {limit, {Kind: 3, Payload: id(7)}},
		"done, and more":                 {limit, {Kind: 2, Payload: id(7) + "\x01"}, {Kind: 3, Payload: id(7) + "x"}},
		"done, cut off":                  {limit, {Kind: 2, Payload: id(7) + "\x01"}, {Kind: 3, Payload: id(7)[:5]}},
	} {
		d := newDisk()
		writeRecords(t, d, records)
		if c, err := shardcommit.OpenCoordinator(d); c != nil || err != api.ErrFrame {
			t.Errorf("%s: OpenCoordinator = %v, %v", name, c != nil, err)
		}
	}
}
