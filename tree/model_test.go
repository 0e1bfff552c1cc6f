package tree_test

import (
	"cmp"
	"errors"
	"maps"
	"slices"
	"testing"

	"orchard/api"
	"orchard/tree"
)

// model is the document's words once more, as plainly as may be, to hold the tree against: what lies
// below what is written down for each pair of nodes, instead of being looked for.
type model struct {
	nodes map[int]api.Node
	below map[[2]int]int // a node and one that it lies below
}

func newModel() *model {
	return &model{nodes: map[int]api.Node{0: {}}, below: map[[2]int]int{}}
}

func (m *model) there(id int) bool { _, ok := m.nodes[id]; return ok }

// lay writes anew what lies below what, going from parent to parent no more often than there are nodes.
func (m *model) lay() {
	m.below = map[[2]int]int{}
	for id := range m.nodes {
		for at, left := id, len(m.nodes); at != 0 && left > 0; left-- {
			at = m.nodes[at].Parent
			m.below[[2]int{id, at}] = 1
		}
	}
}

func (m *model) liesBelow(id, top int) bool { return m.below[[2]int{id, top}] == 1 }

func outside(n, most int) bool { return n < 0 || n > most }

func (m *model) reason(e api.Edit) error {
	place := e.Kind == 1 || e.Kind == 2
	switch {
	case e.Kind != 1 && e.Kind != 2 && e.Kind != 3 && e.Kind != 4,
		outside(e.Node, 1000),
		place && (outside(e.Parent, 1000) || outside(e.Key, 1000)),
		e.Kind == 4 && (outside(e.Prop, 3) || outside(e.Value, 1000000)):
		return api.ErrArg
	case e.Kind == 1 && m.there(e.Node):
		return api.ErrExists
	case (e.Kind == 2 || e.Kind == 3) && e.Node == 0:
		return api.ErrRoot
	case e.Kind != 1 && !m.there(e.Node), place && !m.there(e.Parent):
		return api.ErrNode
	case e.Kind == 1 && len(m.nodes) == 32:
		return api.ErrFull
	case e.Kind == 2 && (e.Parent == e.Node || m.liesBelow(e.Parent, e.Node)):
		return api.ErrCycle
	}
	return nil
}

func (m *model) apply(e api.Edit) error {
	if err := m.reason(e); err != nil {
		return err
	}
	n := m.nodes[e.Node]
	switch e.Kind {
	case 1, 2:
		m.nodes[e.Node] = api.Node{ID: e.Node, Parent: e.Parent, Key: e.Key, Props: n.Props}
	case 3:
		maps.DeleteFunc(m.nodes, func(id int, _ api.Node) bool { return id == e.Node || m.liesBelow(id, e.Node) })
	case 4:
		n.Props[e.Prop] = e.Value
		m.nodes[e.Node] = n
	}
	m.lay()
	return nil
}

// path: the Keys and IDs on the way from the root to a node. All tells the nodes in the order of these.
func (m *model) path(id int) [][2]int {
	var up [][2]int
	for at := id; at != 0 && len(up) < len(m.nodes); at = m.nodes[at].Parent {
		up = append(up, [2]int{m.nodes[at].Key, at})
	}
	slices.Reverse(up)
	return up
}

// all: what All must yield.
func (m *model) all() []told {
	var out []told
	for _, id := range slices.SortedFunc(maps.Keys(m.nodes), func(a, b int) int {
		return slices.CompareFunc(m.path(a), m.path(b), func(x, y [2]int) int {
			return cmp.Or(cmp.Compare(x[0], y[0]), cmp.Compare(x[1], y[1]))
		})
	}) {
		out = append(out, told{m.nodes[id], len(m.path(id))})
	}
	return out
}

// agree does an edit to both, and holds answers and nodes against each other.
func agree(t *testing.T, x *tree.Tree, m *model, e api.Edit) error {
	t.Helper()
	reason := m.apply(e)
	err := x.Apply(e)
	if reason == nil && err != nil {
		t.Fatalf("%+v: %v, want no error", e, err)
	}
	if reason != nil {
		wantRefusal(t, err, reason, e)
	}
	if x.Len() != len(m.nodes) {
		t.Fatalf("%+v: Len() = %d, want %d", e, x.Len(), len(m.nodes))
	}
	if got := nodesOf(x); !maps.Equal(got, m.nodes) {
		t.Fatalf("%+v: the nodes are %v, want %v", e, got, m.nodes)
	}
	if got := allOf(x); !slices.Equal(got, m.all()) {
		t.Fatalf("%+v: All yields %v, want %v", e, got, m.all())
	}
	return reason
}

// dice: numbers that look thrown, and are the same in each run.
type dice uint64

func (d *dice) throw(n int) int {
	*d = *d*6364136223846793005 + 1442695040888963407
	return int((uint64(*d) >> 33) % uint64(n))
}

func (d *dice) edit(ids int) api.Edit {
	kinds := []int{1, 1, 1, 1, 2, 2, 2, 3, 4, 4, 5}
	kind := kinds[d.throw(len(kinds))]
	if kind == api.Delete && ids > 20 && d.throw(8) > 0 {
		kind = api.Create // else a great tree never fills
	}
	e := api.Edit{Kind: kind, Node: d.throw(ids), Parent: d.throw(ids), Key: d.throw(1001), Prop: d.throw(4), Value: d.throw(1000001)}
	if d.throw(12) == 0 {
		field := []*int{&e.Node, &e.Parent, &e.Key, &e.Prop, &e.Value}[d.throw(5)]
		*field = []int{-1, 4, 1001, 1000001}[d.throw(4)]
	}
	return e
}

// Few IDs make circles and edits of what is there; many fill the tree.
func TestP3LikeTheModel(t *testing.T) {
	met := map[error]int{}
	for _, ids := range []int{3, 6, 12, 40, 100} {
		d := dice(ids)
		x, m := tree.New(), newModel()
		for range 1500 {
			met[agree(t, x, m, d.edit(ids))]++
		}
	}
	for _, reason := range []error{nil, api.ErrArg, api.ErrRoot, api.ErrNode, api.ErrExists, api.ErrFull, api.ErrCycle} {
		if met[reason] < 5 {
			t.Errorf("the walk met %v only %d times: it tells nothing of it", reason, met[reason])
		}
	}
}

// Every edit of four nodes, in all rows of three edits behind a small tree.
func TestP3AllShortRows(t *testing.T) {
	var edits []api.Edit
	for node := range 4 {
		edits = append(edits, remove(node), set(node, node, 7))
		for parent := range 4 {
			edits = append(edits, create(node, parent, 1), move(node, parent, 2))
		}
	}
	begin := []api.Edit{create(1, 0, 0), create(2, 1, 0)}
	for _, a := range edits {
		for _, b := range edits {
			for _, c := range edits {
				shortRow(t, append(begin[:2:2], a, b, c))
			}
		}
	}
}

func shortRow(t *testing.T, row []api.Edit) {
	t.Helper()
	x, m := tree.New(), newModel()
	for _, e := range row {
		if reason := m.apply(e); !errors.Is(x.Apply(e), reason) {
			t.Fatalf("%+v: the last is not %v", row, reason)
		}
	}
	for id := range 5 {
		n, ok := x.Find(id)
		if n != m.nodes[id] || ok != m.there(id) {
			t.Fatalf("%+v: Find(%d) = %+v, %v, want %+v", row, id, n, ok, m.nodes[id])
		}
	}
	if x.Len() != len(m.nodes) {
		t.Fatalf("%+v: Len() = %d, want %d", row, x.Len(), len(m.nodes))
	}
	if got := allOf(x); !slices.Equal(got, m.all()) {
		t.Fatalf("%+v: All yields %v, want %v", row, got, m.all())
	}
}
