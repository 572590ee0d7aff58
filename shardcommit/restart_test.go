package shardcommit_test

import (
	"errors"
	"fmt"
	"slices"
	"sync"
	"testing"
	"time"

	"shardcommit/api"
	"shardcommit/shardcommit"
)

// newDisks: so many, empty.
func newDisks(n int) []*disk {
	var all []*disk
	for range n {
		all = append(all, newDisk())
	}
	return all
}

// handed: the disks as they are handed in.
func handed(disks []*disk) []api.Disk {
	var all []api.Disk
	for _, d := range disks {
		all = append(all, d)
	}
	return all
}

func TestP37NoDisks(t *testing.T) {
	for _, disks := range [][]api.Disk{nil, {}, make([]api.Disk, 0, 9)} {
		if nodes, errs := shardcommit.Restart(disks); nodes != nil || errs != nil {
			t.Errorf("Restart = %v, %v", nodes, errs)
		}
	}
}

// P37: the nodes by their places; there are nine at most.
func TestP37HowMany(t *testing.T) {
	for _, n := range []int{1, 2, 8, 9, 10, 11, 40, 3000} {
		disks := newDisks(n)
		nodes, errs := shardcommit.Restart(handed(disks))
		if len(nodes) != n || len(errs) != n {
			t.Fatalf("of %d: %d nodes, %d errors", n, len(nodes), len(errs))
		}
		for id, one := range nodes {
			if id > 8 {
				if one != nil || errs[id] != api.ErrShard || disks[id].calls > 0 {
					t.Fatalf("of %d, node %d: %v, %v, %d calls", n, id, one != nil, errs[id], disks[id].calls)
				}
				continue
			}
			if one == nil || errs[id] != nil || (one.Coordinator() != nil) != (id == 0) || (one.Shard() != nil) != (id > 0) {
				t.Fatalf("of %d, node %d: %v, %v", n, id, one != nil, errs[id])
			}
		}
		// each is over its own disk, and is the node of its place
		wantAnswers(t, nodes[0], "begin: 1", "receive inquire 8-0 9: done", "send: abort 0-8 9")
		for id := 1; id < min(n, 9); id++ {
			wantAnswers(t, nodes[id], fmt.Sprintf("put 1 0 a %d: done", id), fmt.Sprintf("receive prepare 0-%d 1: done", id), fmt.Sprintf("send: yes %d-0 1", id))
			wantAnswers(t, shardOver(t, disks[id]), "state 1: prepared")
		}
	}
}

// P37: some say an error: those are nil, with what their disks said; all others are opened.
func TestP37SomeSayAnError(t *testing.T) {
	says := []error{errBroken, api.ErrDown, api.ErrFull}
	for broken := range 1 << 9 {
		disks := newDisks(10)
		for id, d := range disks[:9] {
			if broken>>id&1 == 1 {
				d.asksAt, d.says = 1+(broken+id)%4, says[(broken+id)%3]
			}
		}
		nodes, errs := shardcommit.Restart(handed(disks))
		if len(nodes) != 10 || len(errs) != 10 || nodes[9] != nil || errs[9] != api.ErrShard {
			t.Fatalf("%d nodes, %d errors", len(nodes), len(errs))
		}
		for id, n := range nodes[:9] {
			var want error
			if broken>>id&1 == 1 {
				want = says[(broken+id)%3]
			}
			if errs[id] != want || (n == nil) != (want != nil) {
				t.Fatalf("%b, node %d: %v, %v, want %v", broken, id, n != nil, errs[id], want)
			}
		}
	}
}

// P37: no disk at a place is that place's error.
func TestP37APlaceWithoutADisk(t *testing.T) {
	nodes, errs := shardcommit.Restart([]api.Disk{newDisk(), nil, newDisk(), nil, 9: nil})
	for id := range 10 {
		var want error
		switch {
		case id == 9:
			want = api.ErrShard
		case id != 0 && id != 2:
			want = api.ErrDown
		}
		if (nodes[id] == nil) != (want != nil) || errs[id] != want {
			t.Errorf("node %d: %v, %v, want %v", id, nodes[id] != nil, errs[id], want)
		}
	}
}

// P37, P2: the list that is handed in is read, not kept and not written into; those that come out are the caller's.
func TestP2DisksAreHandedIn(t *testing.T) {
	disks := newDisks(12)
	list := handed(disks)
	own := slices.Clone(list)
	nodes, errs := shardcommit.Restart(list[:4])
	if !slices.Equal(list, own) {
		t.Errorf("the list is written into")
	}
	clear(list)
	others, _ := shardcommit.Restart(own[4:8])
	wantAnswers(t, nodes[2], "put 1 0 a x: done", "prepare 1: yes")
	clear(others[:cap(others)])
	clear(errs[:cap(errs)])
	wantAnswers(t, nodes[2], "commit 1: done")
	wantShard(t, shardAgain(t, disks[2]), "a=x")
}

// meeting is where so many must be before any goes on.
type meeting struct {
	lock   sync.Mutex
	awaits int
	all    chan struct{}
	missed bool // one waited in vain: no other need wait
}

// arrive: one more is there. Did the others come?
func (m *meeting) arrive() bool {
	m.lock.Lock()
	defer m.lock.Unlock()
	if m.awaits--; m.awaits == 0 {
		close(m.all)
	}
	return !m.missed
}

func (m *meeting) meet() error {
	if m.arrive() {
		select {
		case <-m.all:
			return nil
		case <-time.After(20 * time.Second):
		}
	}
	m.lock.Lock()
	defer m.lock.Unlock()
	m.missed = true
	return errors.New("the others do not come")
}

// meetingDisk is one that does not answer ahead of the first call of all others.
type meetingDisk struct {
	*disk
	first sync.Once
	at    *meeting
	err   error
}

func (d *meetingDisk) arrive() error {
	d.first.Do(func() { d.err = d.at.meet() })
	return d.err
}

func (d *meetingDisk) Read(name string) ([]byte, error) {
	if err := d.arrive(); err != nil {
		return nil, err
	}
	return d.disk.Read(name)
}

func (d *meetingDisk) Names() ([]string, error) {
	if err := d.arrive(); err != nil {
		return nil, err
	}
	return d.disk.Names()
}

func (d *meetingDisk) Sync() error {
	if err := d.arrive(); err != nil {
		return err
	}
	return d.disk.Sync()
}

// P37: all at the same time: no disk answers until all are asked.
func TestP37RestartAtTheSameTime(t *testing.T) {
	for _, n := range []int{1, 2, 5, 9, 15} {
		at := &meeting{awaits: min(n, 9), all: make(chan struct{})}
		var disks []api.Disk
		for range n {
			disks = append(disks, &meetingDisk{disk: newDisk(), at: at})
		}
		nodes, errs := shardcommit.Restart(disks)
		for id := range min(n, 9) {
			if nodes[id] == nil || errs[id] != nil {
				t.Fatalf("of %d, node %d: %v, %v", n, id, nodes[id] != nil, errs[id])
			}
		}
	}
}

// P37: restarts of different disks at the same time, over what others left.
func TestP37RestartsAtTheSameTime(t *testing.T) {
	var wait sync.WaitGroup
	var errs [6]error
	for i := range errs {
		disks := []*disk{leftByCoordinator(t)}
		for range 8 {
			disks = append(disks, leftByShard(t))
		}
		for _, d := range disks {
			d.lose(loseAll)
		}
		wait.Go(func() { errs[i] = restartSome(disks) })
	}
	wait.Wait()
	for i, err := range errs {
		if err != nil {
			t.Errorf("%d: %v", i, err)
		}
	}
}

// restartSome: again and again; each has what was left.
func restartSome(disks []*disk) error {
	for range 5 {
		nodes, errs := shardcommit.Restart(handed(disks))
		if err := errors.Join(errs...); err != nil {
			return err
		}
		if nodes[0].Coordinator().Status(1) != api.Committed {
			return errors.New("1 is not committed")
		}
		for _, n := range nodes[1:] {
			value, _ := n.Shard().Value("a")
			if value != "19" || !slices.Equal(n.Shard().Waiting(), []uint64{5}) || n.Shard().Put(9, 0, "z", "z") != nil {
				return fmt.Errorf("a shard has %q, and %v wait", value, n.Shard().Waiting())
			}
		}
	}
	return nil
}
