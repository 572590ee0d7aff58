package node

import (
	"shardcommit/api"
	"shardcommit/wire"
)

// deed is what a message does at the node that it is for.
type deed func(n *Node, m api.Message) error

// deeds: by the kinds of messages. Those that go to a shard are done at shards alone, all others at the coordinator alone, since bytes are a message only if its kind goes to where it goes.
func deeds() map[int]deed {
	return map[int]deed{
		api.Prepare:  (*Node).prepare,
		api.Commit:   (*Node).commit,
		api.Abort:    (*Node).abort,
		api.Yes:      (*Node).vote,
		api.No:       (*Node).vote,
		api.ReadOnly: (*Node).vote,
		api.Ack:      (*Node).done,
		api.Inquire:  (*Node).answer,
	}
}

// Receive: a message came. ErrFrame, if it is none; ErrShard, if it is for another node.
func (n *Node) Receive(b []byte) error {
	m, err := wire.DecodeMessage(b)
	switch {
	case err != nil:
		return err
	case m.To != n.id:
		return api.ErrShard
	case n.coordinator == nil && n.shard == nil: // it was never opened
		return api.ErrDown
	}
	return deeds()[m.Kind](n, m)
}

// prepare: the coordinator asks for the shard's vote.
func (n *Node) prepare(m api.Message) error {
	vote, err := n.shard.Prepare(m.Txn)
	if err != nil {
		return err
	}
	n.send(vote, m.From, m.Txn)
	return nil
}

// commit: the coordinator goes on telling it until the shard says that it is done: so it says that only if it is, and also if it was long ago.
func (n *Node) commit(m api.Message) error {
	if err := n.shard.Commit(m.Txn); err != nil {
		return err
	}
	n.send(api.Ack, m.From, m.Txn)
	return nil
}

// abort: nobody waits for an answer.
func (n *Node) abort(m api.Message) error { return n.shard.Abort(m.Txn) }

// vote: a shard's vote, which the kind of the message is.
func (n *Node) vote(m api.Message) error { return n.coordinator.Vote(m.Txn, m.From, m.Kind) }

// done: a shard is done.
func (n *Node) done(m api.Message) error { return n.coordinator.Done(m.Txn, m.From) }

// answer: a shard asks what became of a transaction.
func (n *Node) answer(m api.Message) error {
	if what := n.coordinator.Answer(m.Txn); what != 0 {
		n.send(what, m.From, m.Txn)
	}
	return nil
}
