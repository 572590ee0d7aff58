package shardcommit_test

import (
	"maps"
	"math/rand"
	"slices"
	"strconv"
	"strings"
	"testing"

	"shardcommit/api"
)

// model is what a keeper must be, by the document's words.
type model[M any] interface {
	clone() M
	durable() M      // what one has of this that is opened later, if all is durable
	picture() string // tells all that is durable
}

// life is a keeper, and by what was asked of it that which it must be, and which one may be that is opened behind it.
type life[K any, M model[M]] struct {
	t      *testing.T
	d      *disk
	k      *K
	m      M
	may    []M  // what one that is opened later may have: up to which change that need not be durable, up to the call that failed
	failed bool // the disk failed
	quiet  bool // nothing is checked: it was, in another life
	openIt func(d api.Disk) (*K, error)
	seen   func(d *disk) string // tells what the model's picture tells, of the keeper that a disk has
	look   func()               // the keeper is what it must be, as far as can be seen without turning it
}

// check looks, unless nothing is to be checked.
func (v *life[K, M]) check() {
	v.t.Helper()
	calls := v.d.calls
	if !v.quiet {
		v.look()
	}
	if v.d.calls != calls {
		v.t.Fatalf("the disk is called by what only looks")
	}
}

// wrote: a call that writes said this. Was it done? Then what one that is opened later may have goes on with what there is now, or, if that is durable, is just that.
func (v *life[K, M]) wrote(err error, turn func(m M), durable bool) bool {
	v.t.Helper()
	if err == nil && v.failed {
		v.t.Fatalf("a call that writes is done, and the disk had failed")
	}
	if err != nil {
		if !disks(err) {
			v.t.Fatalf("the disk said another error than %v", err)
		}
		if !v.failed {
			then := v.m.clone()
			turn(then)
			v.may = append(v.may, then.durable())
		}
		v.failed = true
		v.check()
		return false
	}
	turn(v.m)
	if durable {
		v.may = nil
	}
	v.may = append(v.may, v.m.durable())
	v.check()
	return true
}

// open opens the keeper anew, over what there is; false: the disk failed at that.
func (v *life[K, M]) open() bool {
	v.t.Helper()
	k, err := v.openIt(v.d)
	if (k == nil) != (err != nil) || err != nil && !disks(err) {
		v.t.Fatalf("opened: %v, %v; the disk has %v", k != nil, err, v.d)
	}
	if err != nil {
		return false
	}
	got := v.seen(v.d)
	var pictures []string
	for _, m := range v.may {
		pictures = append(pictures, m.picture())
	}
	at := slices.Index(pictures, got)
	if at < 0 {
		v.t.Fatalf("opened: %s\nwant one of\n%s", got, strings.Join(pictures, "\n"))
	}
	v.k, v.m, v.failed = k, v.may[at].durable(), false
	v.may = []M{v.m.durable()}
	v.check()
	return true
}

func (v *life[K, M]) over() *disk     { return v.d }
func (v *life[K, M]) hush(quiet bool) { v.quiet = quiet }
func (v *life[K, M]) hasFailed() bool { return v.failed }
func (v *life[K, M]) of() *testing.T  { return v.t }

// copyOf: a disk that has what this one has now.
func copyOf(d *disk) *disk {
	other := newDisk()
	other.now, other.durable = maps.Clone(d.now), maps.Clone(d.now)
	return other
}

// liver is a life of any kind.
type liver interface {
	of() *testing.T
	over() *disk
	open() bool
	hush(quiet bool)
	hasFailed() bool
	behindFailure()    // what writes says an error, all else is as ever
	later()            // it goes on
	step(r *rand.Rand) // any call, mostly one that turns something
}

// reopen: what opens is the same, again and again.
func reopen(v liver) {
	v.of().Helper()
	stays(v.of(), v.over(), v.open)
}

// deed is what is done, and what is done ahead of it, the disk being well.
type deed[V any] struct{ ahead, then func(v V) }

// everywhere does each of these, with all that the disk can do at it; and then again while the keeper is opened anew.
func everywhere[V liver](t *testing.T, begin func(t *testing.T) V, deeds map[string]deed[V]) {
	for name, c := range deeds {
		t.Run(name, func(t *testing.T) {
			t.Parallel()
			dry := begin(t)
			c.ahead(dry)
			writes := -dry.over().writes
			c.then(dry)
			writes += dry.over().writes
			outcomes(func(choose func(n int) int) {
				v := begin(t)
				v.over().halves = true
				v.hush(true)
				c.ahead(v)
				v.hush(false)
				v.over().fail(choose, writes+1)
				c.then(v)
				if v.hasFailed() {
					quietDisk(v, v.behindFailure)
				}
				v.over().loseSome(choose)
				opensBadly(v, choose)
				reopen(v)
				v.later()
				v.over().lose(loseAll)
				v.open()
			})
		})
	}
}

// quietDisk: the disk is not called.
func quietDisk(v liver, do func()) {
	v.of().Helper()
	calls := v.over().calls
	do()
	if v.over().calls != calls {
		v.of().Fatalf("behind a failure the disk is called")
	}
}

// opensBadly: the disk fails while the keeper is opened. The log's tests go through all that can be lost then: here all or nothing is.
func opensBadly(v liver, choose func(n int) int) {
	at, fate := choose(3), choose(2)
	v.over().falling(at)
	if at > 0 && choose(2) == 1 {
		v.over().failing(at, api.ErrFull)
	}
	v.open()
	v.over().lose(func(int) int { return fate })
}

// manyLives: of all kinds of calls, with failures anywhere.
func manyLives[V liver](t *testing.T, begin func(t *testing.T) V) {
	for part := range int64(8) {
		t.Run(strconv.FormatInt(part, 10), func(t *testing.T) {
			t.Parallel()
			for seed := part; seed < 400; seed += 8 {
				liveAtRandom(begin(t), rand.New(rand.NewSource(seed)))
			}
		})
	}
}

func liveAtRandom(v liver, r *rand.Rand) {
	d := v.over()
	for range 5 {
		if r.Intn(4) > 0 {
			d.fail(r.Intn, 1+r.Intn(40))
		}
		for left := r.Intn(120); left > 0; left-- {
			v.step(r)
			if d.down && r.Intn(8) == 0 {
				break
			}
		}
		d.loseSome(r.Intn)
		for r.Intn(3) > 0 {
			d.fail(r.Intn, 6)
			v.open()
			d.loseSome(r.Intn)
		}
		reopen(v)
	}
}
