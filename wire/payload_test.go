package wire

import (
	"strings"
	"testing"
)

func TestFields(t *testing.T) {
	long := strings.Repeat("x", 255)
	b := AppendNumber(nil, uint64(1<<63|7))
	b = AppendText(b, "")
	b = AppendNumber(b, uint8(200))
	b = AppendText(b, long)
	b = AppendText(b, "end")
	for size := range len(b) + 2 {
		payload := (string(b) + "?")[:size]
		f := FieldsOf(payload)
		if f.More() != (size > 0) {
			t.Fatalf("%d bytes: More = %v", size, f.More())
		}
		number, empty, small, text, end := NumberOf[uint64](f), f.Text(), NumberOf[uint8](f), f.Text(), f.Text()
		if f.Right() != (size == len(b)) || f.More() != (size > len(b)) {
			t.Fatalf("%d bytes: Right = %v, More = %v", size, f.Right(), f.More())
		}
		if size >= len(b) && (number != 1<<63|7 || empty != "" || small != 200 || text != long || end != "end") {
			t.Fatalf("%d, %q, %d, %q, %q", number, empty, small, text, end)
		}
	}
}

// A field that is missing makes all wrong, though what comes behind it would be there.
func TestFieldsShort(t *testing.T) {
	f := FieldsOf("\x05ab")
	if f.Text(); f.More() || f.Right() {
		t.Errorf("a text that is short: More = %v, Right = %v", f.More(), f.Right())
	}
	if n := NumberOf[uint8](f); n != 0 || f.Right() {
		t.Errorf("a number behind the end = %d, Right = %v", n, f.Right())
	}
	if f := FieldsOf(""); f.More() || !f.Right() {
		t.Errorf("no fields: More = %v, Right = %v", f.More(), f.Right())
	}
}
