package tree

import "orchard/api"

const rootID = 0

// do answers the bare reason: Apply alone wraps it, so that each refusal is wrapped once.
func (t *Tree) do(e api.Edit) error {
	if !allowed(e) {
		return api.ErrArg
	}
	deeds := [...]func(*Tree, api.Edit) error{
		api.Create: (*Tree).create,
		api.Move:   (*Tree).move,
		api.Delete: (*Tree).remove,
		api.Set:    (*Tree).set,
	}
	return deeds[e.Kind](t, e)
}

// allowed looks at no tree: an edit that is out of bounds is so for every one.
func allowed(e api.Edit) bool {
	switch e.Kind {
	case api.Create, api.Move:
		return upTo(api.MaxNode, e.Node) && upTo(api.MaxNode, e.Parent) && upTo(api.MaxKey, e.Key)
	case api.Delete:
		return upTo(api.MaxNode, e.Node)
	case api.Set:
		return upTo(api.MaxNode, e.Node) && upTo(api.Props-1, e.Prop) && upTo(api.MaxValue, e.Value)
	}
	return false
}

func upTo(most, n int) bool { return 0 <= n && n <= most }

func (t *Tree) create(e api.Edit) error {
	switch {
	case t.has(e.Node):
		return api.ErrExists
	case !t.has(e.Parent):
		return api.ErrNode
	case t.Len() >= api.MaxNodes:
		return api.ErrFull
	}
	t.nodes[e.Node] = api.Node{ID: e.Node, Parent: e.Parent, Key: e.Key}
	return nil
}

func (t *Tree) move(e api.Edit) error {
	switch {
	case e.Node == rootID:
		return api.ErrRoot
	case !t.has(e.Node) || !t.has(e.Parent):
		return api.ErrNode
	case t.inBranch(e.Node, e.Parent):
		return api.ErrCycle
	}
	n := t.nodes[e.Node]
	n.Parent, n.Key = e.Parent, e.Key
	t.nodes[e.Node] = n
	return nil
}

func (t *Tree) remove(e api.Edit) error {
	switch {
	case e.Node == rootID:
		return api.ErrRoot
	case !t.has(e.Node):
		return api.ErrNode
	}
	for n := range t.branch(e.Node) {
		delete(t.nodes, n.ID)
	}
	return nil
}

func (t *Tree) set(e api.Edit) error {
	if !t.has(e.Node) {
		return api.ErrNode
	}
	n := t.nodes[e.Node]
	n.Props[e.Prop] = e.Value
	t.nodes[e.Node] = n
	return nil
}

func (t *Tree) has(id int) bool {
	_, ok := t.nodes[id]
	return ok
}

// inBranch tells whether a node is top or lies below it. It ends because move lets no circle come to be.
func (t *Tree) inBranch(top, id int) bool {
	for id != top && id != rootID {
		id = t.nodes[id].Parent
	}
	return id == top
}
