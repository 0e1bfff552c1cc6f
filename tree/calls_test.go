package tree_test

import (
	"errors"
	"testing"

	"orchard/api"
	"orchard/tree"
)

// All edits of odd numbers and of some at the bounds: each call answers, and as the document says.
func TestP1NoNumbersAreTooOdd(t *testing.T) {
	numbers := append(oddNumbers(), 0, 1, 4, api.MaxNode, api.MaxNode+1)
	for _, kind := range append(oddNumbers(), 0, api.Create, api.Move, api.Delete, api.Set, 5) {
		x, m := tree.New(), newModel()
		agree(t, x, m, create(1, 0, 0))
		agree(t, x, m, create(4, 1, 0))
		for _, a := range numbers {
			x.Find(a)
			for _, b := range numbers {
				for _, c := range []int{a, b, 0} {
					e := api.Edit{Kind: kind, Node: a, Parent: b, Key: c, Prop: b, Value: c}
					if err, want := x.Apply(e), m.apply(e); !errors.Is(err, want) {
						t.Fatalf("%+v: %v, want %v", e, err, want)
					}
				}
			}
		}
		agree(t, x, m, set(0, 0, 1))
	}
}

func TestP1ARefusalTellsReasonAndEdit(t *testing.T) {
	x := tree.New()
	do(t, x, create(1, 0, 0))
	e := api.Edit{Kind: api.Delete, Node: 2, Parent: -7, Key: 5000, Prop: 99, Value: -1}
	first := x.Apply(e)
	wantRefusal(t, first, api.ErrNode, e)
	for _, other := range []error{api.ErrArg, api.ErrRoot, api.ErrExists, api.ErrFull, api.ErrCycle} {
		if errors.Is(first, other) {
			t.Errorf("the refusal is of %v, too", other)
		}
	}
	var r *api.Refusal
	if errors.As(first, &r) {
		r.Edit, r.Err = api.Edit{}, api.ErrFull
	}
	wantRefusal(t, x.Apply(e), api.ErrNode, e)
}

// A nil *api.Refusal in an error would not be nil.
func TestP1NoErrorIsNil(t *testing.T) {
	x := tree.New()
	for _, e := range []api.Edit{create(1, 0, 0), move(1, 0, 1), set(1, 0, 1), remove(1)} {
		if err := x.Apply(e); err != nil {
			t.Errorf("%+v: %T, want nil", e, err)
		}
	}
}

func TestP1TheFirstReasonIsTold(t *testing.T) {
	x := chain(t, api.MaxNodes-1)
	refuse(t, x, api.ErrArg, create(1, 500, -1), create(1, 1001, 0), create(1001, 500, 0),
		move(0, -1, 0), move(0, 0, 1001), move(1, 31, -1), move(500, 500, 1001),
		remove(-1), set(500, 4, 0), set(500, 0, -1))
	refuse(t, x, api.ErrExists, create(31, 500, 0), create(31, 31, 0), create(0, 500, 0))
	refuse(t, x, api.ErrRoot, move(0, 500, 0), move(0, 0, 0), move(0, 31, 0))
	refuse(t, x, api.ErrNode, create(500, 501, 0), create(500, 500, 0), move(500, 500, 0), move(500, 501, 0), move(1, 500, 0))
}

func TestP1TreesAreApart(t *testing.T) {
	x, y := tree.New(), tree.New()
	do(t, x, create(1, 0, 3), set(0, 2, 9), set(1, 0, 4))
	wantNodes(t, y, api.Node{})
	do(t, y, create(1, 0, 5), create(2, 1, 6), remove(1))
	wantNodes(t, y, api.Node{})
	wantNodes(t, x, api.Node{Props: [4]int{0, 0, 9, 0}}, api.Node{ID: 1, Key: 3, Props: [4]int{4, 0, 0, 0}})
	wantNodes(t, tree.New(), api.Node{})
}

// A node that was told is the caller's.
func TestP1ANodeThatIsToldIsACopy(t *testing.T) {
	x := tree.New()
	do(t, x, create(1, 0, 3))
	n, _ := x.Find(1)
	n.Key, n.Parent, n.Props[0] = 8, 8, 8
	wantNodes(t, x, api.Node{}, api.Node{ID: 1, Key: 3})
}

func TestP2ANewTreeIsARoot(t *testing.T) {
	wantNodes(t, tree.New(), api.Node{})
}

func TestP4Find(t *testing.T) {
	x := tree.New()
	do(t, x, create(1000, 0, 1000), create(7, 1000, 2), set(7, 3, 5))
	want := map[int]api.Node{0: {}, 1000: {ID: 1000, Key: 1000}, 7: {ID: 7, Parent: 1000, Key: 2, Props: [4]int{0, 0, 0, 5}}}
	for id, w := range want {
		if n, ok := x.Find(id); n != w || !ok {
			t.Errorf("Find(%d) = %+v, %v, want %+v", id, n, ok, w)
		}
	}
	for _, id := range append(oddNumbers(), 1, 6, 8, 999, 1001) {
		if n, ok := x.Find(id); n != (api.Node{}) || ok {
			t.Errorf("Find(%d) = %+v, %v, want none", id, n, ok)
		}
	}
	do(t, x, remove(7))
	if n, ok := x.Find(7); n != (api.Node{}) || ok {
		t.Errorf("Find(7) = %+v, %v, want none: it was deleted", n, ok)
	}
}

func TestP4LenBehindEachKind(t *testing.T) {
	x := tree.New()
	rows := []struct {
		edit api.Edit
		want int
	}{
		{create(1, 0, 0), 2}, {create(2, 1, 0), 3}, {create(3, 2, 0), 4}, {create(4, 0, 0), 5},
		{move(2, 4, 1), 5}, {set(3, 1, 1), 5}, {set(0, 1, 1), 5}, {remove(1), 4}, {remove(4), 1}, {create(1, 0, 0), 2},
	}
	for _, r := range rows {
		do(t, x, r.edit)
		if x.Len() != r.want {
			t.Fatalf("%+v: Len() = %d, want %d", r.edit, x.Len(), r.want)
		}
	}
	refuse(t, x, api.ErrExists, create(1, 0, 0))
	refuse(t, x, api.ErrNode, remove(9))
}
