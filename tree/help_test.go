package tree_test

import (
	"errors"
	"maps"
	"math"
	"slices"
	"testing"

	"orchard/api"
	"orchard/tree"
)

func create(node, parent, key int) api.Edit {
	return api.Edit{Kind: api.Create, Node: node, Parent: parent, Key: key}
}

func move(node, parent, key int) api.Edit {
	return api.Edit{Kind: api.Move, Node: node, Parent: parent, Key: key}
}

func remove(node int) api.Edit { return api.Edit{Kind: api.Delete, Node: node} }

func set(node, prop, value int) api.Edit {
	return api.Edit{Kind: api.Set, Node: node, Prop: prop, Value: value}
}

// nodesOf asks for every ID that a node may have, and some more.
func nodesOf(x *tree.Tree) map[int]api.Node {
	out := map[int]api.Node{}
	for id := -2; id <= api.MaxNode+2; id++ {
		if n, ok := x.Find(id); ok {
			out[id] = n
		}
	}
	return out
}

// wantNodes: there are just these nodes, and Len counts them.
func wantNodes(t *testing.T, x *tree.Tree, want ...api.Node) {
	t.Helper()
	byID := map[int]api.Node{}
	for _, n := range want {
		byID[n.ID] = n
	}
	if got := nodesOf(x); !maps.Equal(got, byID) {
		t.Fatalf("the nodes are %v, want %v", got, byID)
	}
	if x.Len() != len(byID) {
		t.Fatalf("Len() = %d, want %d", x.Len(), len(byID))
	}
}

// told: one thing that All yields.
type told struct {
	node api.Node
	deep int
}

func allOf(x *tree.Tree) []told {
	var out []told
	for n, deep := range x.All() {
		out = append(out, told{n, deep})
	}
	return out
}

// wantAll: All yields these IDs, each with how many nodes it lies below, and the nodes are as Find tells them.
func wantAll(t *testing.T, x *tree.Tree, want ...[2]int) {
	t.Helper()
	var got [][2]int
	for _, one := range allOf(x) {
		got = append(got, [2]int{one.node.ID, one.deep})
		if n, ok := x.Find(one.node.ID); !ok || n != one.node {
			t.Errorf("All yields %+v, Find tells %+v, %v", one.node, n, ok)
		}
	}
	if !slices.Equal(got, want) {
		t.Fatalf("All yields %v, want %v", got, want)
	}
}

// wantSame: nobody can tell the two trees apart.
func wantSame(t *testing.T, x, y *tree.Tree) {
	t.Helper()
	if a, b := nodesOf(x), nodesOf(y); !maps.Equal(a, b) || x.Len() != y.Len() {
		t.Fatalf("the nodes are %v (%d) and %v (%d), want the same", a, x.Len(), b, y.Len())
	}
	if a, b := allOf(x), allOf(y); !slices.Equal(a, b) {
		t.Fatalf("All yields %v and %v, want the same", a, b)
	}
}

// wantRefusal: err is a refusal of e for this reason, and for no other.
func wantRefusal(t *testing.T, err error, reason error, e api.Edit) {
	t.Helper()
	r, ok := err.(*api.Refusal)
	if !ok || r == nil {
		t.Fatalf("%+v: the error is %T (%v), want a *api.Refusal of %v", e, err, err, reason)
	}
	if r.Err != reason || r.Edit != e {
		t.Fatalf("%+v: refused %+v: %v, want %v", e, r.Edit, r.Err, reason)
	}
	var as *api.Refusal
	if !errors.Is(err, reason) || !errors.As(err, &as) || as != r {
		t.Fatalf("%+v: errors.Is or errors.As does not find %v", e, reason)
	}
}

// do: the edits are done.
func do(t *testing.T, x *tree.Tree, edits ...api.Edit) {
	t.Helper()
	for _, e := range edits {
		if err := x.Apply(e); err != nil {
			t.Fatalf("%+v: %v, want no error", e, err)
		}
	}
}

// refuse: the edit is refused for this reason, and changes nothing.
func refuse(t *testing.T, x *tree.Tree, reason error, edits ...api.Edit) {
	t.Helper()
	for _, e := range edits {
		before, many := nodesOf(x), x.Len()
		wantRefusal(t, x.Apply(e), reason, e)
		if !maps.Equal(nodesOf(x), before) || x.Len() != many {
			t.Fatalf("%+v: refused (%v), yet the tree is changed", e, reason)
		}
	}
}

// chain: nodes 1 to n, each below the one before it.
func chain(t *testing.T, n int) *tree.Tree {
	t.Helper()
	x := tree.New()
	for id := 1; id <= n; id++ {
		do(t, x, create(id, id-1, id))
	}
	return x
}

// oddNumbers: far out of all bounds, either way.
func oddNumbers() []int {
	return []int{math.MinInt, math.MinInt + 1, math.MinInt32, -1001, -2, -1, 1 << 20, math.MaxInt32, math.MaxInt - 1, math.MaxInt}
}
