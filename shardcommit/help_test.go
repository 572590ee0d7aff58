package shardcommit_test

import (
	"encoding/binary"
	"encoding/hex"
	"hash/crc32"
	"testing"

	"shardcommit/api"
)

// These write bytes by the library's means, without the project's, so that both must agree on what the document says.

func withSum(b []byte) []byte {
	return binary.BigEndian.AppendUint32(b, crc32.ChecksumIEEE(b))
}

func recordBytes(r api.Record) []byte {
	b := binary.BigEndian.AppendUint16(nil, uint16(len(r.Payload)))
	b = binary.BigEndian.AppendUint64(b, r.LSN)
	b = append(b, r.Kind)
	return withSum(append(b, r.Payload...))
}

func messageBytes(kind, from, to byte, txn uint64) []byte {
	return withSum(binary.BigEndian.AppendUint64([]byte{kind, from, to}, txn))
}

func unhex(t *testing.T, s string) []byte {
	t.Helper()
	b, err := hex.DecodeString(s)
	if err != nil {
		t.Fatal(err)
	}
	return b
}

// roomy is b with marked room behind it, to see whether a call writes there.
func roomy(b []byte) []byte {
	room := append(append([]byte(nil), b...), "room room room room"...)
	return room[:len(b)]
}

func untouched(b []byte, want []byte) bool {
	return string(b) == string(want) && string(b[:len(b)+19][len(b):]) == "room room room room"
}

func scribble(b []byte) {
	for i := range b {
		b[i] = '!'
	}
}
