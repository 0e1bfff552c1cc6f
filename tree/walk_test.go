package tree_test

import (
	"iter"
	"slices"
	"testing"

	"orchard/api"
	"orchard/tree"
)

// family: 1 (with 3, which has 4) and 2 (with 5 and 6) below the root, told as 0 1 3 4 2 5 6.
func family(t *testing.T) *tree.Tree {
	t.Helper()
	x := tree.New()
	do(t, x, create(1, 0, 1), create(2, 0, 2), create(3, 1, 1), create(4, 3, 1), create(5, 2, 1), create(6, 2, 2), set(4, 0, 40))
	return x
}

// The document's first example.
func TestP5Example(t *testing.T) {
	x := tree.New()
	do(t, x, create(1, 0, 5), create(2, 0, 5), create(3, 1, 0), create(4, 0, 2))
	wantAll(t, x, [2]int{0, 0}, [2]int{4, 1}, [2]int{1, 1}, [2]int{3, 2}, [2]int{2, 1})
	do(t, x, move(1, 2, 9))
	wantAll(t, x, [2]int{0, 0}, [2]int{4, 1}, [2]int{2, 1}, [2]int{1, 2}, [2]int{3, 3})
	do(t, x, remove(2))
	wantAll(t, x, [2]int{0, 0}, [2]int{4, 1})
	refuse(t, x, api.ErrNode, set(2, 0, 0))
	wantAll(t, x, [2]int{0, 0}, [2]int{4, 1})
}

func TestP5ARootAlone(t *testing.T) {
	x := tree.New()
	wantAll(t, x, [2]int{0, 0})
	do(t, x, set(0, 2, 7), create(1, 0, 0), remove(1))
	wantAll(t, x, [2]int{0, 0})
	if n := allOf(x)[0].node; n != (api.Node{Props: [4]int{0, 0, 7, 0}}) {
		t.Errorf("All yields %+v", n)
	}
}

// 31 nodes of one parent, made in some order, with one Key: the lesser ID is first, by number and not by digits.
func TestP5TheSameKey(t *testing.T) {
	for _, key := range []int{0, 7, api.MaxKey} {
		x, want := tree.New(), [][2]int{{0, 0}}
		for i := range 31 {
			do(t, x, create(1+(i*12)%31*33, 0, key))
			want = append(want, [2]int{1 + i*33, 1})
		}
		wantAll(t, x, want...)
	}
}

// The Key counts ahead of the ID, wherever the two disagree.
func TestP5DifferentKeys(t *testing.T) {
	x, want := tree.New(), [][2]int{{0, 0}, {500, 1}}
	do(t, x, create(500, 0, 3))
	for i := range 30 {
		do(t, x, create(1+(i*7)%30, 500, 1000-(i*7)%30*30))
		want = append(want, [2]int{30 - i, 2})
	}
	wantAll(t, x, want...)
}

func TestP5SomeKeysAreTheSame(t *testing.T) {
	x := tree.New()
	do(t, x, create(9, 0, 10), create(10, 0, 9), create(100, 0, 9), create(11, 0, 10), create(2, 0, 1000), create(1000, 0, 0), create(3, 0, 100))
	wantAll(t, x, [2]int{0, 0}, [2]int{1000, 1}, [2]int{10, 1}, [2]int{100, 1}, [2]int{9, 1}, [2]int{11, 1}, [2]int{3, 1}, [2]int{2, 1})
	do(t, x, move(2, 0, 0), move(1000, 0, 9), move(9, 10, 0))
	wantAll(t, x, [2]int{0, 0}, [2]int{2, 1}, [2]int{10, 1}, [2]int{9, 2}, [2]int{100, 1}, [2]int{1000, 1}, [2]int{11, 1}, [2]int{3, 1})
}

// What lies below a node is told ahead of the next one of the same parent, whatever the Keys below say.
func TestP5KeysCountAmongOneParentsNodes(t *testing.T) {
	x := tree.New()
	do(t, x, create(1, 0, 1), create(2, 0, 2), create(3, 1, 1000), create(4, 2, 0), create(5, 3, 500))
	wantAll(t, x, [2]int{0, 0}, [2]int{1, 1}, [2]int{3, 2}, [2]int{5, 3}, [2]int{2, 1}, [2]int{4, 2})
}

func TestP5ADeepTree(t *testing.T) {
	last := api.MaxNodes - 1
	var down, up [][2]int
	x := tree.New()
	for i := range api.MaxNodes {
		down = append(down, [2]int{i, i})
		up = append(up, [2]int{(api.MaxNodes - i) % api.MaxNodes, i})
	}
	wantAll(t, chain(t, last), down...)
	do(t, x, create(last, 0, 0))
	for id := last - 1; id > 0; id-- {
		do(t, x, create(id, id+1, 0))
	}
	wantAll(t, x, up...)
}

// The tree is edited within the loop, at each node of it: what is yielded was there when the ranging began.
func TestP5EditedMeanwhile(t *testing.T) {
	rows := map[string][]api.Edit{
		"Create ahead":      {create(7, 0, 0), create(8, 7, 0)},
		"Create behind":     {create(7, 0, 9), create(8, 6, 0), create(9, 4, 0)},
		"Create till full":  fill(7, api.MaxNodes-7),
		"Move to the end":   {move(1, 0, 9), move(3, 6, 0), move(4, 0, 9)},
		"Move to the front": {move(2, 0, 0), move(6, 1, 0), move(5, 6, 0)},
		"Move of Keys":      {move(1, 0, 2), move(2, 0, 1), move(5, 2, 3)},
		"Delete of 1":       {remove(1)},
		"Delete of 2":       {remove(2)},
		"Delete of a leaf":  {remove(6)},
		"Delete of all":     {remove(1), remove(2)},
		"Set":               {set(0, 0, 1), set(1, 1, 2), set(4, 0, 3), set(5, 3, 4), set(6, 3, 5)},
		"Delete and Create": {remove(1), create(1, 2, 5), create(3, 0, 0), remove(2), create(2, 0, 0)},
	}
	for name, edits := range rows {
		for at := range 7 {
			x, like := family(t), family(t)
			want := allOf(x)
			var got []told
			for n, deep := range x.All() {
				if len(got) == at {
					do(t, x, edits...)
				}
				got = append(got, told{n, deep})
			}
			if !slices.Equal(got, want) {
				t.Errorf("%s, at the node %d: All yields %v, want %v", name, at, got, want)
			}
			do(t, like, edits...)
			wantSame(t, x, like)
		}
	}
}

func fill(from, many int) []api.Edit {
	var out []api.Edit
	for i := range many {
		out = append(out, create(from+i, i%3, i))
	}
	return out
}

// Each node that is yielded is deleted there and then, and so is each that is not yet yielded.
func TestP5DeletedMeanwhile(t *testing.T) {
	x := family(t)
	want, at := allOf(x), 0
	for n, deep := range x.All() {
		if (told{n, deep}) != want[at] {
			t.Errorf("All yields %v at %d, want %v", n, at, want[at])
		}
		at++
		x.Apply(remove(n.ID))
		x.Apply(remove(5))
		x.Apply(remove(6))
	}
	if at != len(want) {
		t.Errorf("All yields %d nodes, want %d", at, len(want))
	}
	wantAll(t, x, [2]int{0, 0})
}

// The walk edits the tree by dice, once for each node that is yielded.
func TestP5EditedByDice(t *testing.T) {
	d := dice(5)
	x, m := tree.New(), newModel()
	all := x.All()
	for range 300 {
		want, at := m.all(), 0
		for n, deep := range all {
			if at >= len(want) || (told{n, deep}) != want[at] {
				t.Fatalf("All yields %v (%d) as number %d of %v", n, deep, at, want)
			}
			at++
			agree(t, x, m, d.edit(40))
		}
		if at != len(want) {
			t.Fatalf("All yields %d nodes, want %d", at, len(want))
		}
	}
}

// The ranging begins when the loop does, not when All is called.
func TestP5BeginsWithTheLoop(t *testing.T) {
	x := tree.New()
	all := x.All()
	do(t, x, create(1, 0, 0), create(2, 1, 0), set(2, 1, 4))
	var got []told
	for n, deep := range all {
		got = append(got, told{n, deep})
	}
	want := []told{{api.Node{}, 0}, {api.Node{ID: 1}, 1}, {api.Node{ID: 2, Parent: 1, Props: [4]int{0, 4, 0, 0}}, 2}}
	if !slices.Equal(got, want) {
		t.Errorf("All yields %v, want %v", got, want)
	}
}

// asked calls a function to range over as a loop does, and counts how often it asks on: a loop that
// answered false may not be asked again.
func asked(all func(func(api.Node, int) bool), leave int) int {
	n := 0
	all(func(api.Node, int) bool {
		n++
		return n != leave
	})
	return n
}

func TestP5LeftEarly(t *testing.T) {
	wide := tree.New()
	do(t, wide, fill(1, 2)...)
	do(t, wide, fill(3, api.MaxNodes-3)...)
	for _, x := range []*tree.Tree{tree.New(), family(t), chain(t, api.MaxNodes-1), wide} {
		all, whole := x.All(), allOf(x)
		for leave := 1; leave <= x.Len(); leave++ {
			if n := asked(all, leave); n != leave {
				t.Errorf("left at %d: asked %d times", leave, n)
			}
			var got []told
			for n, deep := range all {
				if got = append(got, told{n, deep}); len(got) == leave {
					break
				}
			}
			if !slices.Equal(got, whole[:leave]) {
				t.Errorf("left at %d: All yields %v, want %v", leave, got, whole[:leave])
			}
		}
		if n := asked(all, 0); n != x.Len() {
			t.Errorf("never left: asked %d times, want %d", n, x.Len())
		}
	}
}

// A loop may be left by more than break.
func TestP5LeftByReturnAndPanic(t *testing.T) {
	x := family(t)
	all := x.All()
	first := func() int {
		for n := range all {
			if n.ID > 1 {
				return n.ID
			}
		}
		return -1
	}
	thrown := func() (got any) {
		defer func() { got = recover() }()
		for n := range all {
			if n.ID == 4 {
				panic("out of here")
			}
		}
		return nil
	}
	if n := first(); n != 3 {
		t.Errorf("left at %d, want 3", n)
	}
	if got := thrown(); got != "out of here" {
		t.Errorf("the loop's panic came out as %v", got)
	}
	if n := asked(all, 0); n != 7 {
		t.Errorf("ranged over again: %d nodes, want 7", n)
	}
}

func TestP5Again(t *testing.T) {
	x := family(t)
	all := x.All()
	for _, want := range []struct {
		edit api.Edit
		ids  []int
	}{
		{set(0, 0, 0), []int{0, 1, 3, 4, 2, 5, 6}},
		{create(7, 3, 0), []int{0, 1, 3, 7, 4, 2, 5, 6}},
		{move(3, 2, 2), []int{0, 1, 2, 5, 3, 7, 4, 6}},
		{move(1, 0, 2), []int{0, 1, 2, 5, 3, 7, 4, 6}},
		{move(1, 0, 3), []int{0, 2, 5, 3, 7, 4, 6, 1}},
		{remove(3), []int{0, 2, 5, 6, 1}},
		{remove(2), []int{0, 1}},
		{remove(1), []int{0}},
	} {
		do(t, x, want.edit)
		for range 2 {
			if got := idsOf(all); !slices.Equal(got, want.ids) {
				t.Errorf("behind %+v All yields %v, want %v", want.edit, got, want.ids)
			}
		}
	}
}

func idsOf(all func(func(api.Node, int) bool)) []int {
	var out []int
	for n := range all {
		out = append(out, n.ID)
	}
	return out
}

// The loop within sees what the loop around it has edited; the one around goes on as it began.
func TestP5WithinItself(t *testing.T) {
	x := family(t)
	all := x.All()
	var outer []int
	for n := range all {
		outer = append(outer, n.ID)
		do(t, x, create(100+n.ID, n.ID, 1000))
		for m := range all {
			if m.ID == 100+n.ID {
				break
			}
		}
		if got := len(idsOf(all)); got != 7+len(outer) {
			t.Errorf("within: %d nodes, want %d", got, 7+len(outer))
		}
	}
	if !slices.Equal(outer, []int{0, 1, 3, 4, 2, 5, 6}) {
		t.Errorf("the loop around: %v", outer)
	}
}

// Two rangings of one function side by side, each of the tree as it was when it began.
func TestP5SideBySide(t *testing.T) {
	x := family(t)
	all := x.All()
	next1, stop1 := iter.Pull2(iter.Seq2[api.Node, int](all))
	defer stop1()
	next2, stop2 := iter.Pull2(iter.Seq2[api.Node, int](all))
	defer stop2()
	one, _, _ := next1()
	do(t, x, remove(1))
	two, _, _ := next2()
	do(t, x, create(1, 0, 0))
	got := []int{one.ID, two.ID}
	for range 6 {
		a, _, _ := next1()
		b, _, _ := next2()
		got = append(got, a.ID, b.ID)
	}
	if want := []int{0, 0, 1, 2, 3, 5, 4, 6, 2, 0, 5, 0, 6, 0}; !slices.Equal(got, want) {
		t.Errorf("side by side: %v, want %v", got, want)
	}
}

// A node that was yielded is the loop's.
func TestP1AYieldedNodeIsACopy(t *testing.T) {
	x, like := family(t), family(t)
	for n := range x.All() {
		n.ID, n.Parent, n.Key, n.Props[0] = 9, 9, 9, 9
	}
	wantSame(t, x, like)
}

func TestP5ACloneIsTheSame(t *testing.T) {
	full := chain(t, api.MaxNodes-1)
	for _, x := range []*tree.Tree{tree.New(), family(t), full} {
		y := x.Clone()
		if y == nil || y == x {
			t.Fatalf("Clone() = %p of %p", y, x)
		}
		wantSame(t, x, y)
		wantSame(t, y, x.Clone().Clone())
	}
	y := full.Clone()
	refuse(t, y, api.ErrFull, create(40, 0, 0))
	refuse(t, y, api.ErrCycle, move(1, 31, 0), move(30, 31, 0))
	do(t, y, remove(31), create(40, 30, 0))
	refuse(t, full, api.ErrFull, create(40, 0, 0))
}

// Each kind of edit, in the tree and in its clone: the other one does not notice.
func TestP5AClonesLifeIsItsOwn(t *testing.T) {
	for _, edit := range []api.Edit{create(7, 0, 0), create(7, 4, 0), move(3, 2, 0), move(1, 0, 9), remove(1), remove(6), set(0, 0, 5), set(4, 0, 5)} {
		x, before, behind := family(t), family(t), family(t)
		do(t, behind, edit)
		y := x.Clone()
		do(t, x, edit)
		wantSame(t, y, before)
		wantSame(t, x, behind)
		x = family(t)
		y = x.Clone()
		z := y.Clone()
		do(t, y, edit)
		wantSame(t, x, before)
		wantSame(t, y, behind)
		wantSame(t, z, before)
		do(t, z, edit, create(8, 0, 0))
		wantSame(t, x, before)
		wantSame(t, y, behind)
	}
}

// A tree, its clone, and that one's clone, edited by dice in turn.
func TestP5ClonesByDice(t *testing.T) {
	d := dice(11)
	x, m := tree.New(), newModel()
	for range 20 {
		agree(t, x, m, d.edit(12))
	}
	trees, models := []*tree.Tree{x}, []*model{m}
	for range 3 {
		last := trees[len(trees)-1].Clone()
		lastModel := newModel()
		for id, n := range models[len(models)-1].nodes {
			lastModel.nodes[id] = n
		}
		lastModel.lay()
		trees, models = append(trees, last), append(models, lastModel)
		for range 200 {
			i := d.throw(len(trees))
			agree(t, trees[i], models[i], d.edit(12))
		}
	}
	for i := range trees {
		agree(t, trees[i], models[i], set(0, 0, i))
	}
}

// A clone made within a loop is of the tree as it is then; All of the one does not go through the other.
func TestP5CloneWithinALoop(t *testing.T) {
	x := family(t)
	all := x.All()
	for range all {
		x.Apply(remove(2))
		y := x.Clone()
		do(t, y, create(50, 0, 0), remove(1))
		wantAll(t, y, [2]int{0, 0}, [2]int{50, 1})
		wantAll(t, x, [2]int{0, 0}, [2]int{1, 1}, [2]int{3, 2}, [2]int{4, 3})
	}
	if got := idsOf(all); !slices.Equal(got, []int{0, 1, 3, 4}) {
		t.Errorf("All yields %v", got)
	}
}
