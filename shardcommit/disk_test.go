package shardcommit_test

import (
	"errors"
	"slices"
	"strings"

	"shardcommit/api"
)

var errBroken = errors.New("broken")

// absent says that there is no such file, in words of its own: it is to be asked with errors.Is.
type absent struct{ name string }

func (a absent) Error() string { return a.name + " is not here" }
func (a absent) Unwrap() error { return api.ErrNone }

// change is something that a disk was told, and has not made durable yet.
type change struct {
	kind     byte // w write, a append, m rename (move), r remove
	name, to string
	data     string
}

// disk is a disk of which the power can fail. Whoever tests chooses what becomes of each change, as far as api.Disk allows it.
type disk struct {
	durable, now map[string]string
	pending      []change
	calls        int   // how many there were
	writes       int   // how many of them write
	failsAt      int   // the call that fails, of those that write (1: the next); 0: none
	asksAt       int   // the call that fails, of all
	says         error // what it says then
	goesDown     bool  // what fails then is the power: no call is done from then on
	down         bool
	beginning    int  // how many bytes of the data are written when it fails without going down
	halves       bool // of what is begun when the power fails half is there: the log's tests go through other beginnings
}

func newDisk() *disk {
	return &disk{durable: map[string]string{}, now: map[string]string{}}
}

// failing: of the calls that write the n-th from here on says err, and that alone.
func (d *disk) failing(n int, err error) {
	d.failsAt, d.says, d.goesDown = n, err, false
}

// falling: the power fails at the n-th call from here on that writes.
func (d *disk) falling(n int) {
	d.failsAt, d.says, d.goesDown = n, api.ErrDown, true
}

func (d *disk) called() error {
	d.calls++
	d.asksAt--
	if d.down {
		return api.ErrDown
	}
	if d.asksAt == 0 {
		return d.says
	}
	return nil
}

func (d *disk) Read(name string) ([]byte, error) {
	if err := d.called(); err != nil {
		return nil, err
	}
	s, ok := d.now[name]
	if !ok {
		return nil, absent{name}
	}
	return []byte(s), nil
}

func (d *disk) Names() ([]string, error) {
	if err := d.called(); err != nil {
		return nil, err
	}
	var names []string
	for name := range d.now {
		names = append(names, name)
	}
	slices.Sort(names)
	return names, nil
}

// told: a call that writes; does it fail?
func (d *disk) told() error {
	d.writes++
	if err := d.called(); err != nil {
		return err
	}
	d.failsAt--
	if d.failsAt == 0 {
		d.down = d.goesDown
		return d.says
	}
	return nil
}

func (d *disk) change(c change) error {
	err := d.told()
	if _, ok := d.now[c.name]; !ok && (c.kind == 'm' || c.kind == 'r') && err == nil {
		return absent{c.name}
	}
	if err == nil {
		d.pending = append(d.pending, c)
		apply(d.now, c)
		return nil
	}
	if d.down {
		d.pending = append(d.pending, c)
	} else if d.beginning > 0 && (c.kind == 'w' || c.kind == 'a') {
		c.data = c.data[:min(d.beginning, len(c.data))]
		d.pending = append(d.pending, c)
		apply(d.now, c)
	}
	return err
}

func apply(files map[string]string, c change) {
	was, ok := files[c.name]
	switch {
	case c.kind == 'w':
		files[c.name] = c.data
	case c.kind == 'a':
		files[c.name] = was + c.data
	case c.kind == 'r':
		delete(files, c.name)
	case c.kind == 'm' && ok && c.name != c.to:
		files[c.to] = was
		delete(files, c.name)
	}
}

func (d *disk) Write(name string, data []byte) error {
	defer scribble(data)
	return d.change(change{kind: 'w', name: name, data: string(data)})
}

func (d *disk) Append(name string, data []byte) error {
	defer scribble(data)
	return d.change(change{kind: 'a', name: name, data: string(data)})
}

func (d *disk) Rename(from, to string) error { return d.change(change{kind: 'm', name: from, to: to}) }
func (d *disk) Remove(name string) error     { return d.change(change{kind: 'r', name: name}) }

func (d *disk) Sync() error {
	if err := d.told(); err != nil {
		return err
	}
	for _, c := range d.pending {
		apply(d.durable, c)
	}
	d.pending = nil
	return nil
}

// What can become of a change when the power fails: a beginning of it is there only if it has bytes.
const (
	lost = iota
	kept
	begun
)

// lose: the power fails. Of each change choose tells what becomes of it, and of one that is begun how many bytes are there. (Behind an append to a file that is not whole no other is there.)
func (d *disk) lose(choose func(n int) int) {
	gap := map[string]int{}
	for _, c := range d.pending {
		if c.kind == 'a' && gap[c.name] == 1 {
			continue
		}
		fate := lost
		if c.data == "" {
			fate = choose(kept + 1)
		} else {
			fate = choose(begun + 1)
		}
		if fate == begun {
			ends := beginnings(len(c.data))
			if d.halves {
				ends = []int{len(c.data) / 2}
			}
			c.data = c.data[:ends[choose(len(ends))]]
		}
		if fate != kept && c.kind == 'a' {
			gap[c.name] = 1
		}
		if fate != lost {
			apply(d.durable, c)
		}
	}
	d.now = map[string]string{}
	for name, s := range d.durable {
		d.now[name] = s
	}
	d.pending, d.down = nil, false
	d.well()
}

// beginnings: how long a beginning can be of so many bytes: all that can be, of few; of many some.
func beginnings(bytes int) []int {
	if bytes > 20 {
		return []int{0, 1, 2, 10, 11, bytes / 2, bytes - 5, bytes - 4, bytes - 1}
	}
	ends := make([]int, bytes)
	for i := range ends {
		ends[i] = i
	}
	return ends
}

// fail chooses how, and at which call that writes, the disk fails.
func (d *disk) fail(choose func(n int) int, calls int) {
	how, at := choose(3), 1+choose(calls)
	if how == 0 {
		d.falling(at)
		return
	}
	d.failing(at, api.ErrFull)
	d.beginning = 9 * (how - 1)
}

// loseSome: the power fails. If the disk did not go down it may also be that the next one is opened without that.
func (d *disk) loseSome(choose func(n int) int) {
	if d.down || choose(2) == 0 {
		d.lose(choose)
	}
	d.well()
}

// well: nothing fails from here on.
func (d *disk) well() { d.failsAt, d.asksAt, d.beginning = 0, 0, 0 }

// size: bytes of all that is durable, names of files among them.
func (d *disk) size() int {
	n := 0
	for name, s := range d.durable {
		n += len(name) + len(s)
	}
	return n
}

// String tells what the disk has, for a test that fails.
func (d *disk) String() string {
	var names []string
	for name, s := range d.now {
		names = append(names, name+" "+strings.Repeat("#", len(s)/20))
	}
	slices.Sort(names)
	return strings.Join(names, ", ")
}

func loseAll(int) int { return lost }

// outcomes tries something once for each row of choices that it may make: choose(n) is a number below n.
func outcomes(try func(choose func(n int) int)) {
	var row, bounds []int
	for {
		at := 0
		try(func(n int) int {
			if at == len(row) {
				row, bounds = append(row, 0), append(bounds, n)
			}
			at++
			return row[at-1]
		})
		for len(row) > 0 && row[len(row)-1]+1 == bounds[len(row)-1] {
			row, bounds = row[:len(row)-1], bounds[:len(row)-1]
		}
		if len(row) == 0 {
			return
		}
		row[len(row)-1]++
	}
}
