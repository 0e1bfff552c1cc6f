package tree

import (
	"cmp"
	"slices"

	"orchard/api"
)

// branch goes through top and all that lies below it. What there is, is laid out as the ranging begins,
// and by each ranging for itself: so the loop may edit the tree, and go through it again.
func (t *Tree) branch(top int) func(yield func(api.Node, int) bool) {
	return func(yield func(api.Node, int) bool) {
		t.layOut().walk(t.nodes[top], 0, yield)
	}
}

// layout: the nodes of each parent, in the order in which they are told.
type layout map[int][]api.Node

func (t *Tree) layOut() layout {
	l := layout{}
	for id, n := range t.nodes {
		if id != rootID { // the root's Parent is the root's own ID, yet it lies below nothing
			l[n.Parent] = append(l[n.Parent], n)
		}
	}
	for _, nodes := range l {
		slices.SortFunc(nodes, compare)
	}
	return l
}

func compare(a, b api.Node) int {
	return cmp.Or(cmp.Compare(a.Key, b.Key), cmp.Compare(a.ID, b.ID))
}

// walk answers false once yield has: nobody may ask a loop that was left to go on.
func (l layout) walk(n api.Node, deep int, yield func(api.Node, int) bool) bool {
	if !yield(n, deep) {
		return false
	}
	for _, below := range l[n.ID] {
		if !l.walk(below, deep+1, yield) {
			return false
		}
	}
	return true
}
