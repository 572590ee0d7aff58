package shardcommit_test

import (
	"math/rand"
	"slices"
	"strconv"
	"strings"
	"testing"

	"shardcommit/api"
	"shardcommit/shardcommit"
)

// logLife is a log, and by what was asked of it that which it must have, and which one must have that is opened behind it.
type logLife struct {
	t       *testing.T
	d       *disk
	l       *shardcommit.Log
	history []api.Record // what was appended, by numbers: those that are shown, and one behind them that failed and may be there later
	shown   int
	durable int    // how many of them are
	first   uint64 // the first one that is kept
	asked   uint64 // the highest low
	cut     uint64 // the highest low of those Cuts that count
	tried   uint64 // the low of a Cut that failed, and may count later
	serial  int
}

func newLogLife(t *testing.T) *logLife {
	v := &logLife{t: t, d: newDisk(), first: 1}
	v.open()
	return v
}

// disks: is it an error that a disk says here?
func disks(err error) bool { return err == api.ErrDown || err == api.ErrFull }

func (v *logLife) append(bytes int) {
	v.t.Helper()
	v.serial++
	r := api.Record{LSN: uint64(v.shown) + 1, Kind: uint8(v.serial), Payload: strconv.Itoa(v.serial)}
	r.Payload += strings.Repeat("-", max(0, bytes-len(r.Payload)))
	n, err := v.l.Append(r.Kind, r.Payload)
	v.history = append(v.history, r)
	if err != nil {
		if n != 0 {
			v.t.Fatalf("Append = %d, %v", n, err)
		}
		v.failed(err)
		return
	}
	if n != r.LSN {
		v.t.Fatalf("Append = %d, want %d", n, r.LSN)
	}
	v.shown++
	v.check()
}

func (v *logLife) force() {
	v.t.Helper()
	if err := v.l.Force(); err != nil {
		v.failed(err)
		return
	}
	v.durable = v.shown
	v.check()
}

func (v *logLife) cutAt(low uint64) {
	v.t.Helper()
	v.asked = max(v.asked, low)
	if err := v.l.Cut(low); err != nil {
		v.tried = low
		v.failed(err)
		return
	}
	v.durable = v.shown
	v.cut = max(v.cut, min(low, uint64(v.shown)+1))
	v.first = v.begins()
	v.check()
}

// begins: the number of the first record that the log has.
func (v *logLife) begins() uint64 {
	for r := range v.l.All() {
		return r.LSN
	}
	return v.l.Next()
}

// check: the log has what it must have.
func (v *logLife) check() {
	v.t.Helper()
	got := recordsOf(v.t, v.l)
	if v.l.Next() != uint64(v.shown)+1 || v.first > v.l.Next() || !slices.Equal(got, v.history[v.first-1:v.shown]) {
		v.t.Fatalf("records %v, next %d, want %d to %d of %v; the disk has %v", got, v.l.Next(), v.first, v.shown, v.history, v.d)
	}
	if highest := max(1, min(v.asked, v.l.Next())); v.first > highest {
		v.t.Fatalf("the first record is %d, and no Cut was above %d", v.first, highest)
	}
	if below := bytesBelow(got, v.cut); below >= 900 {
		v.t.Fatalf("%d bytes lie below %d", below, v.cut)
	}
}

// failed: a call said the error of the disk. Nothing has turned, and nothing more is written.
func (v *logLife) failed(err error) {
	v.t.Helper()
	if !disks(err) {
		v.t.Fatalf("the disk said another error than %v", err)
	}
	v.check()
	calls := v.d.calls
	if n, err := v.l.Append(1, "more"); n != 0 || !disks(err) {
		v.t.Fatalf("behind a failure Append = %d, %v", n, err)
	}
	if n, err := v.l.Append(1, strings.Repeat("x", 256)); n != 0 || err != api.ErrBig {
		v.t.Fatalf("behind a failure Append of too much = %d, %v", n, err)
	}
	for _, low := range []uint64{0, 1, v.l.Next()} {
		if err := v.l.Cut(low); !disks(err) {
			v.t.Fatalf("behind a failure Cut(%d) = %v", low, err)
		}
	}
	err = v.l.Force()
	if v.durable == v.shown && err != nil || err != nil && !disks(err) {
		v.t.Fatalf("behind a failure Force = %v; %d of %d were durable", err, v.durable, v.shown)
	}
	if err == nil {
		v.durable = v.shown
	}
	if v.d.calls != calls {
		v.t.Fatalf("behind a failure the disk is called")
	}
	v.check()
}

// open opens the log anew, over what there is; false: the disk failed at that.
func (v *logLife) open() bool {
	v.t.Helper()
	l, err := shardcommit.OpenLog(v.d)
	if (l == nil) != (err != nil) || err != nil && !disks(err) {
		v.t.Fatalf("OpenLog = %v, %v; the disk has %v", l != nil, err, v.d)
	}
	if err != nil {
		return false
	}
	v.l = l
	v.shown = int(l.Next()) - 1
	if v.shown < v.durable || v.shown > len(v.history) {
		v.t.Fatalf("opened: next %d; %d were durable of %d", l.Next(), v.durable, len(v.history))
	}
	// A Cut that failed counts whole or not at all.
	if begins := v.begins(); begins != v.first {
		v.first = begins
		v.cut = max(v.cut, min(v.tried, l.Next()))
	}
	v.history, v.durable, v.tried = v.history[:v.shown], v.shown, 0
	v.check()
	return true
}

func (v *logLife) reopen() {
	v.t.Helper()
	stays(v.t, v.d, v.open)
}

// P10, P11: each of these, with all that the disk can do at it; and then again while the log is opened anew.
func TestP10P11Everywhere(t *testing.T) {
	long := func(v *logLife) {
		for range 8 {
			v.append(240)
		}
	}
	for name, c := range map[string]struct {
		ahead, then func(v *logLife)
		calls       int
	}{
		"Append":    {func(v *logLife) { v.append(1); v.force() }, func(v *logLife) { v.append(2) }, 2},
		"Appends":   {func(v *logLife) { v.append(1); v.append(1) }, func(v *logLife) { v.append(1) }, 2},
		"first":     {func(v *logLife) {}, func(v *logLife) { v.append(1) }, 3},
		"segment":   {func(v *logLife) { v.append(250); v.append(250); v.append(90) }, func(v *logLife) { v.append(1) }, 3},
		"Force":     {func(v *logLife) { v.append(1); v.force(); v.append(3); v.append(1) }, (*logLife).force, 2},
		"Cut":       {func(v *logLife) { long(v); v.force() }, func(v *logLife) { v.cutAt(7) }, 9},
		"Cut all":   {func(v *logLife) { long(v) }, func(v *logLife) { v.cutAt(99) }, 9},
		"Cut 0":     {func(v *logLife) { v.append(1) }, func(v *logLife) { v.cutAt(0) }, 2},
		"Cut twice": {func(v *logLife) { long(v); v.cutAt(5) }, func(v *logLife) { v.cutAt(8) }, 9},
	} {
		t.Run(name, func(t *testing.T) {
			t.Parallel()
			outcomes(func(choose func(n int) int) {
				v := newLogLife(t)
				c.ahead(v)
				v.d.fail(choose, c.calls)
				c.then(v)
				v.d.loseSome(choose)
				v.d.fail(choose, 5)
				v.open()
				v.d.loseSome(choose)
				v.reopen()
				v.append(1)
				v.append(1)
				v.force()
				v.d.lose(loseAll)
				v.reopen()
			})
		})
	}
}

// P10, P11: many lives, of all kinds of calls, with failures anywhere.
func TestP10P11ManyLives(t *testing.T) {
	for seed := range int64(600) {
		r := rand.New(rand.NewSource(seed))
		v := newLogLife(t)
		for range 6 {
			if r.Intn(4) > 0 {
				v.d.fail(r.Intn, 1+r.Intn(60))
			}
			for range r.Intn(60) {
				switch r.Intn(12) {
				case 0:
					v.cutAt(uint64(r.Intn(v.shown + 3)))
				case 1:
					v.force()
				default:
					v.append(r.Intn(256))
				}
				if v.shown < len(v.history) || v.tried > 0 || v.d.down {
					break
				}
			}
			v.d.loseSome(r.Intn)
			for r.Intn(3) > 0 {
				v.d.fail(r.Intn, 6)
				v.open()
				v.d.loseSome(r.Intn)
			}
			v.reopen()
		}
	}
}

// P11: Force turns nothing, and asks the disk nothing, if all is durable already.
func TestP11ForceOfWhatIsDurable(t *testing.T) {
	d := newDisk()
	l := logOver(t, d)
	mustAppend(t, l, 3)
	if err := l.Force(); err != nil {
		t.Fatalf("Force = %v", err)
	}
	d.failing(1, errBroken)
	calls := d.calls
	if err := l.Force(); err != nil || d.calls != calls {
		t.Errorf("Force = %v, and calls the disk %d times", err, d.calls-calls)
	}
	if _, err := l.Append(1, ""); err != errBroken {
		t.Errorf("Append = %v", err)
	}
	if err := l.Force(); err != nil {
		t.Errorf("Force of what was durable ahead of the failure = %v", err)
	}
	wantRecords(t, l, 1, 1, 3)
}

// P11: the error is the disk's own.
func TestP11TheErrorIsTheDisks(t *testing.T) {
	for at := 1; at <= 8; at++ {
		d := newDisk()
		l := logOver(t, d)
		for range 9 {
			mustAppend(t, l, 200)
		}
		d.failing(at, errBroken)
		if err := l.Cut(9); err != errBroken {
			t.Errorf("call %d fails: Cut = %v", at, err)
		}
		wantRecords(t, l, 1, 9, 200)
	}
	d := newDisk()
	l := logOver(t, d)
	mustAppend(t, l, 1)
	d.failing(1, errBroken)
	if err := l.Force(); err != errBroken {
		t.Errorf("Force = %v", err)
	}
	if err := l.Force(); err != errBroken {
		t.Errorf("Force again = %v", err)
	}
}
