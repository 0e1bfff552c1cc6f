package tree_test

import (
	"testing"

	"orchard/api"
	"orchard/tree"
)

// The document's first example.
func TestP3Example(t *testing.T) {
	x := tree.New()
	do(t, x, create(1, 0, 5), create(2, 0, 5), create(3, 1, 0), create(4, 0, 2))
	wantNodes(t, x, api.Node{}, api.Node{ID: 1, Key: 5}, api.Node{ID: 2, Key: 5}, api.Node{ID: 3, Parent: 1}, api.Node{ID: 4, Key: 2})
	refuse(t, x, api.ErrCycle, move(1, 3, 0), move(1, 1, 0))
	do(t, x, move(1, 2, 9))
	wantNodes(t, x, api.Node{}, api.Node{ID: 1, Parent: 2, Key: 9}, api.Node{ID: 2, Key: 5}, api.Node{ID: 3, Parent: 1}, api.Node{ID: 4, Key: 2})
	do(t, x, remove(2))
	wantNodes(t, x, api.Node{}, api.Node{ID: 4, Key: 2})
	refuse(t, x, api.ErrNode, set(2, 0, 0))
	refuse(t, x, api.ErrRoot, move(0, 4, 0))
	refuse(t, x, api.ErrExists, create(4, 0, 0))
}

func TestP3Kinds(t *testing.T) {
	x := tree.New()
	for _, kind := range append(oddNumbers(), 0, 5, 6) {
		refuse(t, x, api.ErrArg, api.Edit{Kind: kind}, api.Edit{Kind: kind, Node: 1})
	}
}

// Each field that a kind speaks of: one beyond its bounds and far beyond.
func TestP3OutOfBounds(t *testing.T) {
	x := tree.New()
	do(t, x, create(1, 0, 0))
	rows := []struct {
		kinds []int
		most  int
		field func(*api.Edit) *int
	}{
		{[]int{api.Create, api.Move, api.Delete, api.Set}, 1000, func(e *api.Edit) *int { return &e.Node }},
		{[]int{api.Create, api.Move}, 1000, func(e *api.Edit) *int { return &e.Parent }},
		{[]int{api.Create, api.Move}, 1000, func(e *api.Edit) *int { return &e.Key }},
		{[]int{api.Set}, 3, func(e *api.Edit) *int { return &e.Prop }},
		{[]int{api.Set}, 1000000, func(e *api.Edit) *int { return &e.Value }},
	}
	for _, r := range rows {
		for _, kind := range r.kinds {
			for _, n := range append(oddNumbers(), r.most+1) {
				if 0 <= n && n <= r.most {
					continue
				}
				e := api.Edit{Kind: kind, Node: 1}
				*r.field(&e) = n
				refuse(t, x, api.ErrArg, e)
			}
		}
	}
}

func TestP3AtTheBounds(t *testing.T) {
	x := tree.New()
	do(t, x, create(1000, 0, 1000), create(1, 1000, 0), create(2, 0, 0))
	do(t, x, move(2, 1000, 1000), move(1000, 0, 0))
	do(t, x, set(1000, 0, 1000000), set(1000, 3, 1000000), set(2, 0, 0), set(0, 3, 1000000))
	wantNodes(t, x,
		api.Node{Props: [4]int{0, 0, 0, 1000000}},
		api.Node{ID: 1000, Props: [4]int{1000000, 0, 0, 1000000}},
		api.Node{ID: 1, Parent: 1000},
		api.Node{ID: 2, Parent: 1000, Key: 1000})
	do(t, x, remove(1000))
	wantNodes(t, x, api.Node{Props: [4]int{0, 0, 0, 1000000}})
	refuse(t, x, api.ErrNode, move(1000, 1000, 1000), remove(1000), set(1000, 3, 1000000), create(1, 1000, 1000))
}

func TestP3OtherFieldsAreNotLookedAt(t *testing.T) {
	for _, odd := range append(oddNumbers(), 1, 1001) {
		x := tree.New()
		do(t, x, api.Edit{Kind: api.Create, Node: 1, Parent: 0, Key: 2, Prop: odd, Value: odd})
		do(t, x, create(2, 0, 0))
		do(t, x, api.Edit{Kind: api.Move, Node: 1, Parent: 2, Key: 3, Prop: odd, Value: odd})
		do(t, x, api.Edit{Kind: api.Set, Node: 1, Parent: odd, Key: odd, Prop: 1, Value: 6})
		wantNodes(t, x, api.Node{}, api.Node{ID: 1, Parent: 2, Key: 3, Props: [4]int{0, 6, 0, 0}}, api.Node{ID: 2})
		refuse(t, x, api.ErrNode, api.Edit{Kind: api.Delete, Node: 3, Parent: odd, Key: odd, Prop: odd, Value: odd})
		do(t, x, api.Edit{Kind: api.Delete, Node: 1, Parent: odd, Key: odd, Prop: odd, Value: odd})
		wantNodes(t, x, api.Node{}, api.Node{ID: 2})
	}
}

func TestP3CreateRefuses(t *testing.T) {
	x := tree.New()
	do(t, x, create(1, 0, 4), set(1, 0, 5))
	refuse(t, x, api.ErrExists, create(0, 0, 0), create(1, 0, 4), create(1, 1, 0), create(1, 9, 0))
	refuse(t, x, api.ErrNode, create(2, 9, 0), create(2, 2, 0))
}

func TestP3ATreeMayBeFull(t *testing.T) {
	x := tree.New()
	for id := 1; id < api.MaxNodes; id++ {
		do(t, x, create(id*10, 0, 0))
	}
	refuse(t, x, api.ErrFull, create(1, 0, 0), create(1000, 310, 0))
	refuse(t, x, api.ErrExists, create(310, 0, 0))
	refuse(t, x, api.ErrNode, create(1, 2, 0))
	do(t, x, move(10, 310, 1), set(310, 0, 1), remove(20), create(1, 10, 0))
	refuse(t, x, api.ErrFull, create(2, 0, 0))
	if x.Len() != api.MaxNodes {
		t.Errorf("Len() = %d, want %d", x.Len(), api.MaxNodes)
	}
	do(t, x, remove(310), create(2, 0, 0), create(3, 0, 0), create(4, 0, 0))
	refuse(t, x, api.ErrFull, create(5, 0, 0))
}

// What lies below a moved node goes with it, and its properties stay.
func TestP3Move(t *testing.T) {
	x := tree.New()
	do(t, x, create(1, 0, 1), create(2, 1, 2), create(3, 2, 3), create(4, 0, 4), set(2, 1, 8))
	do(t, x, move(2, 4, 9))
	wantNodes(t, x, api.Node{}, api.Node{ID: 1, Key: 1}, api.Node{ID: 2, Parent: 4, Key: 9, Props: [4]int{0, 8, 0, 0}}, api.Node{ID: 3, Parent: 2, Key: 3}, api.Node{ID: 4, Key: 4})
	do(t, x, move(2, 4, 0), move(1, 3, 5), move(3, 0, 6))
	wantNodes(t, x, api.Node{}, api.Node{ID: 1, Parent: 3, Key: 5}, api.Node{ID: 2, Parent: 4, Props: [4]int{0, 8, 0, 0}}, api.Node{ID: 3, Key: 6}, api.Node{ID: 4, Key: 4})
	refuse(t, x, api.ErrNode, move(9, 0, 0), move(1, 9, 0), move(9, 9, 0))
	refuse(t, x, api.ErrRoot, move(0, 0, 0), move(0, 1, 0), move(0, 9, 0))
}

// In a chain a node may go below each one above it, and below none that is itself or below it.
func TestP3Circles(t *testing.T) {
	last := api.MaxNodes - 1
	for node := 1; node <= last; node++ {
		x := chain(t, last)
		for parent := node; parent <= last; parent++ {
			refuse(t, x, api.ErrCycle, move(node, parent, 0))
		}
		for parent := node - 1; parent >= 0; parent-- {
			do(t, x, move(node, parent, 0))
		}
	}
}

// Two nodes that would each go below the other: the second makes the circle.
func TestP3CirclesOfTwoMoves(t *testing.T) {
	x := tree.New()
	do(t, x, create(1, 0, 0), create(2, 0, 0), create(3, 1, 0), create(4, 2, 0), move(1, 4, 0))
	refuse(t, x, api.ErrCycle, move(2, 3, 0), move(2, 1, 0), move(2, 4, 0), move(4, 3, 0))
	do(t, x, move(3, 0, 0), move(2, 3, 0))
	refuse(t, x, api.ErrCycle, move(3, 1, 0))
}

func TestP3DeleteTakesAllBelow(t *testing.T) {
	last := api.MaxNodes - 1
	for node := 1; node <= last; node++ {
		x := chain(t, last)
		do(t, x, remove(node))
		want := []api.Node{{}}
		for id := 1; id < node; id++ {
			want = append(want, api.Node{ID: id, Parent: id - 1, Key: id})
		}
		wantNodes(t, x, want...)
		refuse(t, x, api.ErrNode, remove(node), set(last, 0, 0), create(40, node, 0))
		refuse(t, x, api.ErrRoot, remove(0))
	}
}

// Wide and deep: 1 and 2 each have five nodes, of which each has another, with IDs in no order.
func TestP3DeleteLeavesTheRest(t *testing.T) {
	x := tree.New()
	do(t, x, create(1, 0, 0), create(2, 0, 0))
	want := []api.Node{{}, {ID: 2}}
	for i := range 5 {
		do(t, x, create(900-i, 1, i), create(10+i, 900-i, 0), create(20+i, 2, i), create(800-i, 20+i, 0))
		want = append(want, api.Node{ID: 20 + i, Parent: 2, Key: i}, api.Node{ID: 800 - i, Parent: 20 + i})
	}
	do(t, x, remove(1))
	wantNodes(t, x, want...)
}

// A node that is made anew has nothing of the one that was deleted.
func TestP3DeletedNodesLeaveNothing(t *testing.T) {
	x := tree.New()
	do(t, x, create(1, 0, 4), create(2, 1, 5), set(1, 2, 9), set(2, 0, 9), remove(1), create(1, 0, 0))
	wantNodes(t, x, api.Node{}, api.Node{ID: 1})
	do(t, x, create(2, 0, 0))
	wantNodes(t, x, api.Node{}, api.Node{ID: 1}, api.Node{ID: 2})
}

func TestP3Set(t *testing.T) {
	x := tree.New()
	do(t, x, create(1, 0, 4), create(2, 1, 5))
	for prop := range api.Props {
		do(t, x, set(1, prop, 10+prop), set(0, prop, 20+prop))
	}
	do(t, x, set(1, 1, 0), set(1, 2, 1000000))
	wantNodes(t, x, api.Node{Props: [4]int{20, 21, 22, 23}}, api.Node{ID: 1, Key: 4, Props: [4]int{10, 0, 1000000, 13}}, api.Node{ID: 2, Parent: 1, Key: 5})
	refuse(t, x, api.ErrNode, set(3, 0, 0), set(1000, 3, 7))
}
