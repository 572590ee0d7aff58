package node

import (
	"sync"

	"shardcommit/api"
)

// Restart opens the nodes 0, 1, .. of as many disks, all at the same time: each by a goroutine, that writes at its own place alone.
func Restart(disks []api.Disk) ([]*Node, []error) {
	if len(disks) == 0 {
		return nil, nil
	}
	nodes := make([]*Node, len(disks))
	errs := make([]error, len(disks))
	var wait sync.WaitGroup
	for id, d := range disks {
		wait.Go(func() { nodes[id], errs[id] = Open(d, id) })
	}
	wait.Wait()
	return nodes, errs
}
