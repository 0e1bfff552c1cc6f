package party

import (
	"errors"
	"slices"

	"orchard/api"
	"orchard/tree"
)

// client: what it knows for sure, what it waits for, and what it was answered.
type client struct {
	base    known
	pending []request
	answers []api.Answer
	line    line
}

func (c *client) edit(e api.Edit) error {
	switch {
	case outOfBounds(e):
		return api.ErrArg
	case len(c.pending) >= api.MaxPending:
		return api.ErrQueue
	}
	r := request{seq: c.nextSeq(), edit: e}
	c.pending = append(c.pending, r)
	if c.line.joined {
		c.line.up = append(c.line.up, r)
	}
	return nil
}

// outOfBounds asks a tree that nobody has: what is ErrArg for one is so for all, and what is not may well be done to it.
func outOfBounds(e api.Edit) bool { return errors.Is(tree.New().Apply(e), api.ErrArg) }

// nextSeq needs no counter: each edit that was let in was answered, or is pending.
func (c *client) nextSeq() int { return len(c.answers) + len(c.pending) + 1 }

func (c *client) join() error {
	if c.line.joined {
		return api.ErrJoined
	}
	c.line.joined = true
	c.line.up = append(c.line.up, coming{c.base.entries})
	for _, r := range c.pending {
		c.line.up = append(c.line.up, r)
	}
	return nil
}

// drop leaves a zero line, so that both ways are lost at once, and the server tells this client of no entry till it comes again.
// What the client knows and waits for stays, and so do the server's answers: the next join goes on from there.
func (c *client) drop() error {
	if !c.line.joined {
		return api.ErrJoined
	}
	c.line = line{}
	return nil
}

func (c *client) get(a api.Answer) {
	c.pending = slices.DeleteFunc(c.pending, func(r request) bool { return r.seq == a.Seq })
	c.answers = append(c.answers, a)
}

// view leaves out what Apply refuses: such an edit waits for its answer all the same, and another base may let it be done.
func (c *client) view() *tree.Tree {
	t := c.base.Clone()
	for _, r := range c.pending {
		t.Apply(r.edit)
	}
	return t
}

func (c *client) waiting() []api.Edit {
	var list []api.Edit
	for _, r := range c.pending {
		list = append(list, r.edit)
	}
	return list
}
