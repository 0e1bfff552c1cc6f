// Package tree: nodes that lie below one another: see DOC.md.
package tree

import (
	"maps"

	"orchard/api"
)

// Tree is a root, and what lies below it.
type Tree struct {
	nodes map[int]api.Node // by ID
}

// New makes a tree that is a root alone (P2).
func New() *Tree {
	return &Tree{nodes: map[int]api.Node{rootID: {}}}
}

// Apply does an edit (P3).
func (t *Tree) Apply(e api.Edit) error {
	if reason := t.do(e); reason != nil {
		return &api.Refusal{Edit: e, Err: reason}
	}
	return nil
}

// Find tells of a node (P4).
func (t *Tree) Find(id int) (api.Node, bool) {
	n, ok := t.nodes[id]
	return n, ok
}

// Len tells how many nodes there are (P4).
func (t *Tree) Len() int { return len(t.nodes) }

// All goes through the nodes, each ahead of those below it, and how deep they lie (P5).
func (t *Tree) All() func(yield func(api.Node, int) bool) {
	return t.branch(rootID)
}

// Clone makes a tree that is the same (P5).
func (t *Tree) Clone() *Tree {
	return &Tree{nodes: maps.Clone(t.nodes)}
}
