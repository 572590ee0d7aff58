package journal

import (
	"maps"
	"slices"
	"strings"
	"testing"

	"shardcommit/api"
)

// files is a disk on which all is durable at once.
type files map[string]string

func (f files) Read(name string) ([]byte, error) {
	s, ok := f[name]
	if !ok {
		return nil, api.ErrNone
	}
	return []byte(s), nil
}

func (f files) Write(name string, data []byte) error {
	f[name] = string(data)
	return nil
}

func (f files) Append(name string, data []byte) error {
	f[name] += string(data)
	return nil
}

func (f files) Rename(from, to string) error {
	f[to] = f[from]
	return f.Remove(from)
}

func (f files) Remove(name string) error {
	delete(f, name)
	return nil
}

func (f files) Names() ([]string, error) { return slices.Sorted(maps.Keys(f)), nil }
func (f files) Sync() error              { return nil }

// filled: a log of some segments, of which the first ones were cut.
func filled(t *testing.T) files {
	t.Helper()
	f := files{}
	l, err := Open(f)
	if err != nil {
		t.Fatalf("Open = %v", err)
	}
	for range 40 {
		if _, err := l.Append(1, strings.Repeat("x", 100)); err != nil {
			t.Fatalf("Append = %v", err)
		}
	}
	if err := l.Cut(14); err != nil {
		t.Fatalf("Cut = %v", err)
	}
	return f
}

// No failure of power leaves such files: nothing of them is to be removed, since nobody can tell what they are.
func TestFilesThatNoLogLeft(t *testing.T) {
	for name, damage := range map[string]func(f files){
		"a segment is missing":     func(f files) { delete(f, "segment-25") },
		"the first is missing":     func(f files) { delete(f, "segment-13") },
		"a segment ends early":     func(f files) { f["segment-19"] = f["segment-19"][:200] },
		"a segment is empty":       func(f files) { f["segment-19"] = "" },
		"a segment is another one": func(f files) { f["segment-19"] = f["segment-25"] },
		"a segment goes on":        func(f files) { f["segment-37"] += f["segment-37"] },
		"the mark is empty":        func(f files) { f["mark"] = "" },
		"the mark is cut off":      func(f files) { f["mark"] = f["mark"][:14] },
		"the mark is two":          func(f files) { f["mark"] += f["mark"] },
		"the mark has more behind": func(f files) { f["mark"] += "x" },
	} {
		f := filled(t)
		damage(f)
		was := maps.Clone(f)
		if l, err := Open(f); l != nil || err != api.ErrFrame {
			t.Errorf("%s: Open = %v, %v", name, l != nil, err)
		}
		if !maps.Equal(f, was) {
			t.Errorf("%s: files are changed", name)
		}
	}
}

func TestSegmentNames(t *testing.T) {
	names := []string{"mark", "segment-10", "segment-9", "segment-+1", "segment-09", "segment-", "segment-x", "10", "segment-18446744073709551615", "segment-18446744073709551616"}
	if got := segmentsAmong(names); !slices.Equal(got, []uint64{9, 10, 1<<64 - 1}) {
		t.Errorf("segments %v", got)
	}
}
