package wire

import "shardcommit/api"

// messageSize is how many bytes a message has: kind, from, to, transaction, sum.
const messageSize = 1 + 1 + 1 + 8 + sumSize

// EncodeMessage writes a message: ErrFrame, if there is no such message.
func EncodeMessage(m api.Message) ([]byte, error) {
	if !isMessage(m) {
		return nil, api.ErrFrame
	}
	b := make([]byte, 0, messageSize)
	b = AppendNumber(b, uint8(m.Kind))
	b = AppendNumber(b, uint8(m.From))
	b = AppendNumber(b, uint8(m.To))
	b = AppendNumber(b, m.Txn)
	var s sums
	return s.seal(b), nil
}

// DecodeMessage reads a message: ErrFrame, if b is not just one.
func DecodeMessage(b []byte) (api.Message, error) {
	if len(b) != messageSize {
		return api.Message{}, api.ErrFrame
	}
	var s sums
	body, ok := s.unseal(b)
	if !ok {
		return api.Message{}, api.ErrFrame
	}
	m := readMessage(body)
	// A right sum says only that nothing was damaged: whoever wrote it may have written what is no message.
	if !isMessage(m) {
		return api.Message{}, api.ErrFrame
	}
	return m, nil
}

// readMessage reads what stands in bytes whose length and sum are right already.
func readMessage(body []byte) api.Message {
	kind, rest := takeNumber[uint8](body)
	from, rest := takeNumber[uint8](rest)
	to, rest := takeNumber[uint8](rest)
	txn, _ := takeNumber[uint64](rest)
	return api.Message{Kind: int(kind), From: int(from), To: int(to), Txn: txn}
}

// isMessage: does such a message go from there to there?
func isMessage(m api.Message) bool {
	if m.Txn == 0 {
		return false
	}
	switch m.Kind {
	case api.Prepare, api.Commit, api.Abort:
		return isCoordinator(m.From) && isShard(m.To)
	case api.Yes, api.No, api.ReadOnly, api.Ack, api.Inquire:
		return isShard(m.From) && isCoordinator(m.To)
	}
	return false
}

func isCoordinator(node int) bool { return node == 0 }

func isShard(node int) bool { return node >= 1 && node <= api.MaxShards }
