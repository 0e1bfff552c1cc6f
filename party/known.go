package party

import (
	"orchard/api"
	"orchard/tree"
)

// known: a tree, and how many entries it is made of: a client's base, and what the server has.
type known struct {
	*tree.Tree
	entries int
}

func nothing() known { return known{Tree: tree.New()} }

// copied is for another to have: the trees have nothing to do with one another.
func (k known) copied() known { return known{Tree: k.Clone(), entries: k.entries} }

// follow adds the next entry. One that was done was so to this very tree, so that Apply refuses nothing here.
func (k *known) follow(e api.Entry) {
	if e.Done {
		k.Apply(e.Edit)
	}
	k.entries++
}
