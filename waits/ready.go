package waits

import "sort"

// ready are the nodes that can be next, in a heap: the least one first, as what is embedded compares them.
type ready struct {
	sort.Interface
	nodes *sort.IntSlice // what is embedded is this list, too
}

// newReady are no nodes as yet.
func newReady() ready {
	nodes := new(sort.IntSlice)
	return ready{Interface: nodes, nodes: nodes}
}

// Push and Pop are asked by container/heap: they put a node last, and take the last one away.

func (r ready) Push(node any) { *r.nodes = append(*r.nodes, node.(int)) }

func (r ready) Pop() any {
	last := len(*r.nodes) - 1
	node := (*r.nodes)[last]
	*r.nodes = (*r.nodes)[:last]
	return node
}
