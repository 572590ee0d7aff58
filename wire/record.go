// Package wire: records and messages as bytes.
package wire

import "shardcommit/api"

// EncodeRecord writes a record: ErrBig, if its payload is above the bound.
func EncodeRecord(r api.Record) ([]byte, error) {
	if len(r.Payload) > api.MaxPayload {
		return nil, api.ErrBig
	}
	b := make([]byte, 0, api.Overhead+len(r.Payload))
	b = AppendNumber(b, uint16(len(r.Payload)))
	b = AppendNumber(b, r.LSN)
	b = AppendNumber(b, r.Kind)
	b = append(b, r.Payload...)
	var s sums
	return s.seal(b), nil
}

// Scan reads the records at the beginning of b, up to the first place where there is none; and tells how many bytes they have.
func Scan(b []byte) ([]api.Record, int) {
	var s sums
	var records []api.Record
	end := 0
	for {
		frame, ok := firstFrame(b[end:])
		if !ok {
			return records, end
		}
		body, ok := s.unseal(frame)
		if !ok {
			return records, end
		}
		records = append(records, readRecord(body))
		end += len(frame)
	}
}

// firstFrame cuts out the bytes that a record at the beginning of b would have, by the length that it tells; false: they are not all there, or it would be above the bound.
func firstFrame(b []byte) ([]byte, bool) {
	if len(b) < api.Overhead {
		return nil, false
	}
	payload, _ := takeNumber[uint16](b)
	size := api.Overhead + int(payload)
	if payload > api.MaxPayload || size > len(b) {
		return nil, false
	}
	frame, _ := split(b, size)
	return frame, true
}

// readRecord reads a record whose length and sum are right already.
func readRecord(body []byte) api.Record {
	_, rest := takeNumber[uint16](body)
	lsn, rest := takeNumber[uint64](rest)
	kind, rest := takeNumber[uint8](rest)
	return api.Record{LSN: lsn, Kind: kind, Payload: string(rest)}
}
