package mirror

import (
	"stillwater/api"
	"stillwater/disk"
	"stillwater/store"
)

// node: a store; its numbers are those of the last snapshot it has, and of the last session it was in.
type node struct {
	*store.Store
	size int
}

// newNode of n blocks begins with noughts.
func newNode(n int) (node, error) {
	d, err := store.Format(n)
	if err != nil {
		return node{}, err
	}
	return open(d, n)
}

// anew is the node as it would be if it began anew: with what is on its disk, and nothing else.
func (n node) anew() (node, error) {
	d, err := disk.Crash(n.Disk(), nil)
	if err != nil {
		return node{}, err
	}
	return open(d, n.size)
}

// open a disk of a node.
func open(d disk.Disk, n int) (node, error) {
	s, err := store.Open(d, n)
	if err != nil {
		return node{}, err
	}
	return node{Store: s, size: n}, nil
}

// putsOf are the puts that make blocks what they are, at each place.
func putsOf(blocks []api.Block) []api.Put {
	puts := make([]api.Put, 0, len(blocks))
	for at, b := range blocks {
		puts = append(puts, api.Put{At: at, Data: b})
	}
	return puts
}
