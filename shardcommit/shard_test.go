package shardcommit_test

import (
	"errors"
	"fmt"
	"math"
	"slices"
	"strconv"
	"strings"
	"sync"
	"testing"

	"shardcommit/api"
	"shardcommit/shardcommit"
)

func shardOver(t *testing.T, d api.Disk) *shardcommit.Shard {
	t.Helper()
	return opened(t, shardcommit.OpenShard, d)
}

func shardAgain(t *testing.T, d *disk) *shardcommit.Shard {
	t.Helper()
	return again(t, shardcommit.OpenShard, d)
}

func pairsOf(t *testing.T, s *shardcommit.Shard) []api.Pair {
	t.Helper()
	walk := s.All()
	if walk == nil {
		t.Fatalf("All is nil")
	}
	var pairs []api.Pair
	for key, value := range walk {
		pairs = append(pairs, api.Pair{Key: key, Value: value})
	}
	return pairs
}

// wantShard: what is committed, as "a=x b=y", and what waits.
func wantShard(t *testing.T, s *shardcommit.Shard, values string, waiting ...uint64) {
	t.Helper()
	var got []string
	for _, p := range pairsOf(t, s) {
		got = append(got, p.Key+"="+p.Value)
		if value, ok := s.Value(p.Key); value != p.Value || !ok {
			t.Fatalf("Value(%q) = %q, %v, and All says %q", p.Key, value, ok, p.Value)
		}
	}
	if strings.Join(got, " ") != values || !slices.Equal(s.Waiting(), waiting) {
		t.Fatalf("%v, waiting %v, want %s, waiting %v", got, s.Waiting(), values, waiting)
	}
}

// askShard calls a shard, by words ("put 1 0 a x"), and tells what it answered: what Get read ("-": nothing), the vote, the state, or the error by its number.
func askShard(s *shardcommit.Shard, words string) string {
	w := append(strings.Split(words, " "), "", "", "", "")
	txn, _ := strconv.ParseUint(w[1], 10, 64)
	seq, _ := strconv.Atoi(w[2])
	var err error
	answer := "done"
	switch w[0] {
	case "get":
		var ok bool
		answer, ok, err = s.Get(txn, seq, w[3])
		if !ok && answer == "" {
			answer = "-"
		}
		if err != nil && (ok || answer != "-") {
			return "an answer beside an error: " + answer
		}
	case "put":
		err = s.Put(txn, seq, w[3], w[4])
	case "delete":
		err = s.Delete(txn, seq, w[3])
	case "prepare":
		var vote int
		vote, err = s.Prepare(txn)
		answer = map[int]string{api.Yes: "yes", api.No: "no", api.ReadOnly: "readonly"}[vote]
		if err != nil && vote != 0 {
			return "a vote beside an error: " + answer
		}
	case "commit":
		err = s.Commit(txn)
	case "abort":
		err = s.Abort(txn)
	case "checkpoint":
		err = s.Checkpoint()
	case "state":
		answer = []string{"none", "working", "doomed", "prepared"}[s.State(txn)]
	case "ticks":
		for range txn {
			s.Tick()
		}
	default:
		return "no such call"
	}
	return orError(answer, err)
}

func TestP12EmptyShard(t *testing.T) {
	d := newDisk()
	for range 3 {
		s := shardOver(t, d)
		wantShard(t, s, "")
		if s.Waiting() != nil {
			t.Errorf("Waiting is not nil")
		}
		for _, txn := range []uint64{0, 1, math.MaxUint64} {
			if s.State(txn) != api.None {
				t.Errorf("State(%d) = %d", txn, s.State(txn))
			}
		}
		if value, ok := s.Value("a"); value != "" || ok {
			t.Errorf("Value = %q, %v", value, ok)
		}
		d.lose(loseAll)
	}
}

func TestP12NoDisk(t *testing.T) {
	if s, err := shardcommit.OpenShard(nil); s != nil || err != api.ErrDown {
		t.Errorf("OpenShard(nil) = %v, %v", s != nil, err)
	}
	var s shardcommit.Shard
	wantAnswers(t, &s, "get 1 0 a: 10", "put 1 0 a x: 10", "delete 1 0 a: 10", "prepare 1: no", "commit 1: done", "abort 1: done", "checkpoint: 10", "state 1: none", "ticks 20: done")
	wantShard(t, &s, "")
}

// P12: the error is what the disk said, and a shard that is opened later has all.
func TestP12TheDiskSaysAnError(t *testing.T) {
	left := func() *disk {
		d := newDisk()
		s := shardOver(t, d)
		for i := range 20 {
			wantAnswers(t, s, fmt.Sprintf("put 1 0 a %d: done", i), "prepare 1: yes", "commit 1: done")
		}
		wantAnswers(t, s, "put 2 0 b y: done", "prepare 2: yes")
		d.failing(10, errBroken) // the mark is set, and the files below it are there still
		if err := s.Checkpoint(); err != errBroken {
			t.Fatalf("Checkpoint = %v", err)
		}
		return d
	}
	failsToOpen(t, left, shardcommit.OpenShard, func(s *shardcommit.Shard) { wantShard(t, s, "a=19", 2) })
}

// P13: each error, and which is named first where several apply.
func TestP13Errors(t *testing.T) {
	long, longer := strings.Repeat("k", 16), strings.Repeat("k", 17)
	most, more := strings.Repeat("v", 32), strings.Repeat("v", 33)
	s := shardOver(t, newDisk())
	wantAnswers(t, s,
		"put 1 0 p x: done", "prepare 1: yes", // prepared
		"put 2 0 w x: done", "put 2 1 p x: 3", // doomed
		"get 3 0 a: -", "get 3 1 b: -", "get 3 2 c: -", "get 3 3 d: -", // four keys
	)
	for _, call := range []string{"get %d %d %s", "put %d %d %s x", "delete %d %d %s"} {
		for _, c := range []struct {
			txn  uint64
			seq  int
			key  string
			want string
		}{
			{0, 0, "a", "7"}, {0, -1, "", "7"}, {0, 9, longer, "7"},
			{9, 0, "", "1"}, {9, 0, longer, "1"}, {9, 1, "", "1"}, {1, 1, "", "1"}, {2, 1, longer, "1"}, {3, 4, "", "1"},
			{1, 0, "p", "4"}, {1, 1, "p", "4"}, {1, 2, "z", "4"},
			{9, 1, "z", "4"}, {9, -1, "z", "4"}, {9, math.MaxInt, "z", "4"}, {9, math.MinInt, "z", "4"},
			{2, 0, "w", "4"}, {2, 2, "w", "4"}, {3, 3, "a", "4"}, {3, 5, "e", "4"},
			{2, 1, "w", "3"}, {2, 1, "z", "3"}, {2, 1, "p", "3"},
			{3, 4, "e", "5"}, {3, 4, "p", "5"}, // though another holds it
		} {
			words := fmt.Sprintf(call, c.txn, c.seq, c.key)
			if got := ask(s, words); got != c.want {
				t.Errorf("%s: %s, want %s", words, got, c.want)
			}
		}
	}
	wantAnswers(t, s, "state 9: none", "state 0: none", "state 1: prepared", "state 2: doomed", "state 3: working",
		"put 0 0 a "+more+": 7", "put 9 3 a "+more+": 1", "put 1 1 p "+more+": 1", "put 2 1 a "+more+": 1", "put 3 4 e "+more+": 1",
		"put 9 0 "+long+" "+most+": done", "get 9 1 "+long+": "+most, "put 9 2 "+long+" "+more+": 1", "put 9 2 x : done", "get 9 3 x: ", "delete 9 4 y: done",
		"put 3 4 d : done", "get 3 5 a: -", "delete 3 6 b: done", "state 3: working")
}

// P13: twelve are known, in all states; a thirteenth only when one of them is not known any more.
func TestP13Many(t *testing.T) {
	for _, free := range []string{"abort 1: done", "abort 5: done", "abort 9: done", "commit 1: done", "prepare 5: no", "prepare 12: readonly", "ticks 16: done"} {
		s := shardOver(t, newDisk())
		for i := 1; i <= 4; i++ {
			wantAnswers(t, s, fmt.Sprintf("put %d 0 k%d x: done", i, i), fmt.Sprintf("prepare %d: yes", i))
			wantAnswers(t, s, fmt.Sprintf("get %d 0 k%d: 3", i+4, i), fmt.Sprintf("state %d: doomed", i+4))
			wantAnswers(t, s, fmt.Sprintf("get %d 0 s: -", i+8))
		}
		for _, words := range []string{"put 13 0 new x", "get 13 0 s", "get 13 0 k1", "delete 13 0 s"} {
			wantAnswers(t, s, words+": 5", "state 13: none")
		}
		wantAnswers(t, s, "get 13 1 new: 4", "get 13 0 : 1", "get 9 1 k: -", "get 5 0 k: 3", "prepare 13: no", "commit 13: done", "abort 13: done")
		wantAnswers(t, s, "get 13 0 new: 5", free, "get 13 0 new: -", "state 13: working")
		if free != "ticks 16: done" {
			wantAnswers(t, s, "get 14 0 new: 5")
		}
	}
}

// P14: who holds what.
func TestP14Holds(t *testing.T) {
	for i, rows := range [][]string{
		{"get 1 0 k: -", "get 2 0 k: -", "get 3 0 k: -", "state 1: working", "state 2: working"},
		{"get 1 0 k: -", "put 2 0 k x: 3", "state 2: doomed", "state 1: working", "put 1 1 k y: done"},
		{"get 1 0 k: -", "delete 2 0 k: 3", "state 2: doomed", "delete 1 1 k: done", "get 3 0 k: 3"},
		{"put 1 0 k x: done", "get 2 0 k: 3", "put 3 0 k x: 3", "delete 4 0 k: 3", "get 1 1 k: x", "state 1: working"},
		{"delete 1 0 k: done", "get 2 0 k: 3", "put 3 0 k x: 3", "delete 4 0 k: 3"},
		{"get 1 0 k: -", "put 1 1 k x: done", "get 1 2 k: x", "get 2 0 k: 3"},                         // what it reads of its own it holds to write still
		{"get 1 0 k: -", "get 2 0 k: -", "put 1 1 k x: 3", "state 1: doomed", "put 2 1 k x: 3"},       // a doomed one holds what it held
		{"get 1 0 k: -", "get 2 0 k: -", "put 1 1 k x: 3", "abort 1: done", "put 2 1 k x: done"},      // up to its end
		{"get 1 0 k: -", "get 2 0 k: -", "prepare 1: readonly", "delete 2 1 k: done"},                 // read alone
		{"put 1 0 k x: done", "put 2 0 l x: done", "get 1 1 l: 3", "get 3 0 k: 3", "get 2 1 l: x"},    // what the doomed one wrote
		{"get 1 0 k: -", "put 1 1 l x: done", "prepare 1: yes", "get 2 0 k: -", "put 3 0 k x: 3"},     // what a prepared one reads
		{"put 1 0 k x: done", "prepare 1: yes", "commit 1: done", "put 2 0 k y: done"},                // freed
		{"put 1 0 k x: done", "prepare 1: yes", "abort 1: done", "get 2 0 k: -"},                      // freed
		{"put 1 0 k x: done", "ticks 16: done", "get 2 0 k: -"},                                       // freed
		{"put 1 0 k x: done", "put 2 0 k y: 3", "prepare 2: no", "get 1 1 k: x", "prepare 1: yes"},    // whom the conflict does not touch
		{"put 1 0 k x: done", "put 2 0 k y: 3", "abort 1: done", "put 2 0 k y: 3", "state 2: doomed"}, // doomed for good
		{"put 1 0 k x: done", "put 2 0 kk y: done", "put 3 0 K y: done", "put 4 0 \x00 y: done"},
	} {
		s := shardOver(t, newDisk())
		t.Log("case", i)
		wantAnswers(t, s, rows...)
	}
}

// P14: what Get reads.
func TestP14Get(t *testing.T) {
	s := shardOver(t, newDisk())
	wantAnswers(t, s, "put 1 0 a old: done", "put 1 1 e : done", "prepare 1: yes", "commit 1: done",
		"get 2 0 a: old", "get 2 1 b: -", "get 2 2 e: ", "get 3 0 a: old", "abort 3: done",
		"put 2 3 a new: done", "get 2 4 a: new", "delete 2 5 a: done", "get 2 6 a: -", "put 2 7 a : done", "get 2 8 a: ", "put 2 9 a newer: done", "get 2 10 a: newer",
		"delete 2 11 e: done", "get 2 12 e: -", "delete 2 13 b: done", "get 2 14 b: -")
	if value, ok, err := s.Get(2, 15, "e"); value != "" || ok || err != nil {
		t.Errorf("Get of what was deleted = %q, %v, %v", value, ok, err)
	}
	if value, ok, err := s.Get(4, 0, "f"); value != "" || ok || err != nil {
		t.Errorf("Get of nothing = %q, %v, %v", value, ok, err)
	}
	wantAnswers(t, s, "put 2 16 a : done")
	if value, ok, err := s.Get(2, 17, "a"); value != "" || !ok || err != nil {
		t.Errorf("Get of an empty value = %q, %v, %v", value, ok, err)
	}
	wantShard(t, s, "a=old e=")
	wantAnswers(t, s, "prepare 2: yes", "commit 2: done", "get 5 0 a: ", "get 5 1 e: -", "get 5 2 b: -")
	wantShard(t, s, "a=")
}

// P15 to P17: of each state, and of what is not known.
func TestP15Prepare(t *testing.T) {
	s := shardOver(t, newDisk())
	wantAnswers(t, s, "prepare 0: 7", "prepare 1: no", "state 1: none",
		"get 1 0 a: -", "get 1 1 b: -", "prepare 1: readonly", "state 1: none", "prepare 1: no",
		"get 1 0 a: -", "put 1 1 a x: done", "prepare 1: yes", "state 1: prepared", "prepare 1: yes", "prepare 1: yes",
		"delete 2 0 nothing: done", "prepare 2: yes",
		"put 3 0 d x: done", "put 3 1 a x: 3", "prepare 3: no", "state 3: none", "prepare 3: no", "get 4 0 d: -")
	wantShard(t, s, "", 1, 2)
}

func TestP16Commit(t *testing.T) {
	d := newDisk()
	s := shardOver(t, d)
	wantAnswers(t, s, "commit 0: 7", "commit 1: done", "state 1: none",
		"put 1 0 a x: done", "put 1 1 b y: done", "get 1 2 c: -", "commit 1: 4", "state 1: working", "prepare 1: yes", "commit 1: done", "state 1: none", "commit 1: done")
	wantShard(t, s, "a=x b=y")
	wantAnswers(t, s, "delete 1 0 a: done", "put 1 1 b z: done", "put 2 0 b q: 3", "commit 2: 4", "state 2: doomed", "get 3 0 c: -", "commit 3: 4", "prepare 1: yes", "commit 1: done")
	wantShard(t, s, "b=z")
	wantShard(t, shardAgain(t, d), "b=z")
}

func TestP17Abort(t *testing.T) {
	s := shardOver(t, newDisk())
	wantAnswers(t, s, "abort 0: 7", "abort 1: done", "state 1: none",
		"put 1 0 a x: done", "put 2 0 b x: done", "prepare 2: yes", "get 3 0 a: 3",
		"abort 1: done", "abort 2: done", "abort 3: done", "state 1: none", "state 2: none", "state 3: none",
		"commit 2: done", "prepare 2: no", "put 4 0 a y: done", "put 4 1 b y: done", "put 1 0 c y: done")
	wantShard(t, s, "")
}

// P18: what begins the count anew, and what does not.
func TestP18Ticks(t *testing.T) {
	for _, c := range []struct{ words, then string }{
		{"get 1 1 k: -", "working"}, {"put 1 1 l y: done", "working"}, {"delete 1 1 k: done", "working"}, {"get 1 1 held: 3", "doomed"}, {"put 1 1 held x: 3", "doomed"},
		{"get 1 1 : 1", "none"}, {"get 1 0 k: 4", "none"}, {"put 1 2 k x: 4", "none"}, {"commit 1: 4", "none"}, {"commit 9: done", "none"}, {"get 0 1 k: 7", "none"}, {"get 2 0 z: -", "none"}, {"state 1: working", "none"}, {"checkpoint: done", "none"},
	} {
		s := shardOver(t, newDisk())
		wantAnswers(t, s, "put 8 0 held x: done", "prepare 8: yes", "ticks 7: done", "get 1 0 k: -", "ticks 15: done", "state 1: working", c.words, "ticks 1: done", "state 1: "+c.then)
		if c.then != "none" {
			wantAnswers(t, s, "ticks 14: done", "state 1: "+c.then, "ticks 1: done", "state 1: none")
		}
		wantAnswers(t, s, "ticks 40: done", "state 8: prepared", "get 1 0 k: -", "get 3 0 held: 3")
		wantShard(t, s, "", 8)
	}
}

// P18: what a doomed one, or one that holds four keys, is refused does not count.
func TestP18Refused(t *testing.T) {
	s := shardOver(t, newDisk())
	wantAnswers(t, s, "put 8 0 held x: done", "put 1 0 a x: done", "get 1 1 held: 3", "get 2 0 b: -", "get 2 1 c: -", "get 2 2 d: -", "get 2 3 e: -", "put 8 1 held y: done", "prepare 8: yes")
	wantAnswers(t, s, "ticks 15: done", "get 1 1 b: 3", "get 1 1 held: 3", "get 2 4 f: 5", "state 1: doomed", "state 2: working")
	wantAnswers(t, s, "ticks 1: done", "state 1: none", "state 2: none", "put 3 0 a y: done", "put 3 1 e y: done")
	wantAnswers(t, s, "abort 3: done", "put 3 0 a y: done", "ticks 15: done", "state 3: working", "abort 3: done", "put 3 0 a y: done", "ticks 15: done", "state 3: working", "ticks 1: done", "state 3: none")
}

func TestP19Walk(t *testing.T) {
	s := shardOver(t, newDisk())
	walk := s.All()
	for range walk {
		t.Fatalf("a key of an empty shard")
	}
	keys := []string{"b", "a", "B", "ab", "\xff", "10", "9", "\x00", "aa", "Z"}
	for i, key := range keys {
		wantAnswers(t, s, fmt.Sprintf("put 7 0 %s v%d: done", key, i), "prepare 7: yes", "commit 7: done")
	}
	slices.Sort(keys)
	for _, end := range []int{1, 3, 9, 10, 1, 11} { // the walk that was handed out ahead of the keys, again and again
		var got []string
		for key, value := range walk {
			got = append(got, key)
			if want, ok := s.Value(key); value != want || !ok {
				t.Fatalf("%q has %q, want %q", key, value, want)
			}
			if len(got) == end {
				break
			}
		}
		if !slices.Equal(got, keys[:min(end, 10)]) {
			t.Errorf("a walk up to %d: %q", end, got)
		}
	}
	count := 0
	for key, value := range walk { // it ends, though keys come and go
		if value != "v"+strconv.Itoa(slices.Index([]string{"b", "a", "B", "ab", "\xff", "10", "9", "\x00", "aa", "Z"}, key)) {
			t.Fatalf("%q has %q in a walk beside Commit", key, value)
		}
		count++
		wantAnswers(t, s, fmt.Sprintf("put 7 0 new%d x: done", count), "delete 7 1 \xff: done", "delete 7 2 b: done", "prepare 7: yes", "commit 7: done")
	}
	if count != 10 || len(pairsOf(t, s)) != 18 {
		t.Errorf("a walk beside Commit had %d, and then there are %d", count, len(pairsOf(t, s)))
	}
}

func TestP19Waiting(t *testing.T) {
	s := shardOver(t, newDisk())
	for i, txn := range []uint64{9, 1 << 63, 10, 2, math.MaxUint64, 1} {
		wantAnswers(t, s, fmt.Sprintf("put %d 0 %d x: done", txn, i), fmt.Sprintf("prepare %d: yes", txn))
	}
	wantAnswers(t, s, "get 5 0 s: -", "get 6 0 0: 3")
	want := []uint64{1, 2, 9, 10, 1 << 63, math.MaxUint64}
	got := s.Waiting()
	if !slices.Equal(got, want) {
		t.Errorf("Waiting = %v", got)
	}
	for i := range got { // it is the caller's
		got[i] = 3
	}
	if got = append(got, 4); !slices.Equal(s.Waiting(), want) {
		t.Errorf("Waiting = %v", s.Waiting())
	}
	for _, txn := range want {
		wantAnswers(t, s, fmt.Sprintf("abort %d: done", txn))
	}
	if s.Waiting() != nil {
		t.Errorf("Waiting = %v, and not nil", s.Waiting())
	}
}

// The document's examples.
func TestExamplesOfAShard(t *testing.T) {
	d := newDisk()
	s := shardOver(t, d)
	wantAnswers(t, s, "put 1 0 a x: done", "get 2 0 a: 3", "state 2: doomed", "prepare 2: no", "prepare 1: yes")
	s = shardAgain(t, d)
	wantAnswers(t, s, "state 1: prepared", "get 5 0 a: 3", "commit 1: done", "get 6 0 a: x", "get 7 0 a: x",
		"get 3 0 s: -", "get 4 0 s: -", "put 3 1 s x: 3", "prepare 4: readonly")
}

// P2: shards over different disks know nothing of one another.
func TestP2ShardsAtTheSameTime(t *testing.T) {
	var wait sync.WaitGroup
	var errs [8]error
	for i := range errs {
		wait.Go(func() {
			d := newDisk()
			s, err := shardcommit.OpenShard(d)
			for n := range 30 {
				txn, value := uint64(n+1), fmt.Sprintf("%d of %d", n, i)
				err = errors.Join(err, s.Put(txn, 0, "k", value), s.Put(txn, 1, value[:2], value))
				vote, why := s.Prepare(txn)
				err = errors.Join(err, why, s.Commit(txn))
				if got, ok := s.Value("k"); vote != api.Yes || !ok || got != value {
					err = errBroken
				}
				if n%7 == 0 {
					err = errors.Join(err, s.Checkpoint())
				}
				s.Tick()
			}
			errs[i] = err
		})
	}
	wait.Wait()
	for i, err := range errs {
		if err != nil {
			t.Errorf("shard %d: %v", i, err)
		}
	}
}

// A disk may have records that no shard left: that is told, and nothing panics.
func TestP1RecordsThatNoShardLeft(t *testing.T) {
	id := "\x00\x00\x00\x00\x00\x00\x00\x07"
	prepared := api.Record{Kind: 1, Payload: id + "\x01\x01k\x01v"}
	for name, records := range map[string][]api.Record{
		"a kind that there is not":          {{Kind: 0, Payload: ""}},
		"another":                           {{Kind: 9, Payload: id}},
		"an id that is cut off":             {{Kind: 1, Payload: id[:7]}},
		"prepared, and nothing":             {{Kind: 1, Payload: ""}},
		"prepared of 0":                     {{Kind: 1, Payload: "\x00\x00\x00\x00\x00\x00\x00\x00\x01\x01k\x01v"}},
		"prepared, and a way alone":         {{Kind: 1, Payload: id + "\x01"}},
		"prepared, and no such way":         {{Kind: 1, Payload: id + "\x03\x01k\x01v"}},
		"prepared, and a key that is short": {{Kind: 1, Payload: id + "\x01\x05k"}},
		"prepared, and no value":            {{Kind: 1, Payload: id + "\x01\x01k"}},
		"prepared twice":                    {prepared, prepared},
		"committed, and not prepared":       {{Kind: 2, Payload: id}},
		"aborted, and not prepared":         {{Kind: 3, Payload: id}},
		"committed, and more":               {prepared, {Kind: 2, Payload: id + "x"}},
		"aborted, and more":                 {prepared, {Kind: 3, Payload: id + "x"}},
		"committed, cut off":                {prepared, {Kind: 2, Payload: id[:3]}},
		"a value without one":               {{Kind: 4, Payload: "\x01k"}},
		"a value, and more":                 {{Kind: 4, Payload: "\x01k\x01vx"}},
	} {
		d := newDisk()
		writeRecords(t, d, records)
		if s, err := shardcommit.OpenShard(d); s != nil || err != api.ErrFrame {
			t.Errorf("%s: OpenShard = %v, %v", name, s != nil, err)
		}
	}
}

// Nor can a shard tell what was committed, if its records went and no checkpoint is there.
func TestP1ALogThatWasCut(t *testing.T) {
	d := newDisk()
	s := shardOver(t, d)
	for range 40 {
		wantAnswers(t, s, "put 1 0 a x: done", "prepare 1: yes", "commit 1: done")
	}
	l := logOver(t, d)
	if err := l.Cut(l.Next()); err != nil {
		t.Fatalf("Cut = %v", err)
	}
	if s, err := shardcommit.OpenShard(d); s != nil || err != api.ErrFrame {
		t.Errorf("OpenShard = %v, %v", s != nil, err)
	}
}

// Of a checkpoint that does not begin, or does not end, nothing counts.
func TestP1ACheckpointThatIsNotWhole(t *testing.T) {
	prepared := "\x00\x00\x00\x00\x00\x00\x00\x07\x01\x01k\x01v"
	for _, kinds := range [][]uint8{{0x81, 0xff}, {0xfe, 0x81}, {0x81}, {0xfe, 0x81, 0xfe, 0xff}, {0x81, 0xff, 0xfe, 0x81}} {
		d := newDisk()
		l := logOver(t, d)
		for _, kind := range kinds {
			payload := ""
			if kind == 0x81 {
				payload = prepared
			}
			if _, err := l.Append(kind, payload); err != nil {
				t.Fatalf("Append = %v", err)
			}
		}
		wantShard(t, shardOver(t, d), "")
		if _, err := l.Append(1, prepared); err != nil {
			t.Fatalf("Append = %v", err)
		}
		wantShard(t, shardOver(t, d), "", 7)
	}
}
