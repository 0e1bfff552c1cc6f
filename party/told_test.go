package party

import (
	"testing"

	"orchard/api"
	"orchard/tree"
)

// TestP11View: pending edits are applied one behind the other, to a base that goes on.
func TestP11View(t *testing.T) {
	p := begun(t, 2, 8)
	do(t, p, "j0", "j1", "u0", "u1")
	edit(t, p, 0, create(1, 0, 0), create(2, 1, 0))
	do(t, p, "u0", "u0", "d0", "d0", "d1", "d1")
	two := []api.Edit{create(1, 0, 0), create(2, 1, 0)}
	mine := []api.Edit{move(1, 2, 0), move(2, 0, 0), move(1, 2, 0), set(1, 3, 9)} // the first would make a circle
	edit(t, p, 1, mine...)
	wantFacts(t, p, 1, facts{base: grown(two...), entries: 2, view: grown(create(2, 0, 0), create(1, 2, 0), set(1, 3, 9)), pending: mine})
	wantFacts(t, p, 0, facts{base: grown(two...), entries: 2, view: grown(two...), answers: answered("++")})
	edit(t, p, 0, remove(2))
	do(t, p, "u0", "d1")
	wantFacts(t, p, 1, facts{base: grown(create(1, 0, 0)), entries: 3, view: grown(create(1, 0, 0), set(1, 3, 9)), pending: mine})
	do(t, p, "u1", "u1", "u1", "u1")
	wantTold(t, p, 1, 4, 5, 6, 7)
	now := grown(create(1, 0, 0), set(1, 3, 9))
	wantFacts(t, p, 1, facts{base: now, entries: 7, view: now, answers: answered("---+")})
}

func TestP11Log(t *testing.T) {
	for keeps := 0; keeps <= api.MaxLog; keeps++ {
		p := begun(t, 1, keeps)
		do(t, p, "j0", "u0")
		var log []api.Entry
		for i := 1; i <= 2*api.MaxLog+1; i++ {
			e := set(i%2, 0, i) // there is no node 1: every second one is not done
			edit(t, p, 0, e)
			do(t, p, "u0", "d0")
			log = append(log, entry(0, i, e, i%2 == 0))
			wantServed(t, p, served{now: grown(set(0, 0, i-i%2)), entries: i, log: log[max(0, i-keeps):]})
		}
	}
}

// busy: a party in which every list has something in it.
func busy(t *testing.T) *Party {
	t.Helper()
	p := begun(t, 2, 3)
	do(t, p, "j0", "u0")
	edit(t, p, 0, create(1, 0, 1), create(2, 1, 1), create(1, 0, 0), set(2, 1, 5), create(3, 0, 3))
	do(t, p, "u0", "u0", "u0", "u0", "d0", "d0", "d0")
	edit(t, p, 1, create(1, 0, 0), create(9, 1, 1))
	do(t, p, "j1", "u1") // a snapshot is on its way
	return p
}

// TestP1TreesThatCameOut: they are the caller's, to edit; nothing hangs on them, nor do they hang on what follows.
func TestP1TreesThatCameOut(t *testing.T) {
	p, untouched := busy(t), busy(t)
	for c := range 2 {
		base, _, _ := p.Base(c)
		view, _ := p.View(c)
		server, _ := p.Server()
		for _, x := range []*tree.Tree{base, view, server} {
			before := text(x)
			for _, e := range []api.Edit{set(0, 3, 3), remove(1), create(50, 0, 0), create(51, 50, 0)} {
				x.Apply(e)
			}
			if text(x) == before {
				t.Fatal("a tree that came out cannot be edited")
			}
		}
	}
	wantAlike(t, p, untouched)
}

func TestP1ListsThatCameOut(t *testing.T) {
	p, untouched := busy(t), busy(t)
	for c := range 2 {
		pending, _ := p.Pending(c)
		spoil(pending, api.Edit{Kind: 77, Node: 77})
		answers, _ := p.Answers(c)
		spoil(answers, api.Answer{Seq: 77})
		spoil(p.Log(), api.Entry{Client: 77, Seq: 77})
	}
	wantAlike(t, p, untouched)
}

// spoil writes over a list, and over the spare room behind it.
func spoil[T any](list []T, odd T) {
	_ = append(list, odd)
	list = list[:cap(list)]
	for i := range list {
		list[i] = odd
	}
}

// wantAlike: nobody can tell the two parties apart, now and while what is on its way comes.
func wantAlike(t *testing.T, p, q *Party) {
	t.Helper()
	for step := range 20 {
		if a, b := all(t, p), all(t, q); a != b {
			t.Fatalf("step %d: there is\n%s\nwant\n%s", step, a, b)
		}
		c := step % 2
		for _, call := range []func(*Party) error{
			func(p *Party) error { return p.Down(c) },
			func(p *Party) error { return p.Up(c) },
			func(p *Party) error { return p.Edit(c, create(20+step, 0, step)) },
			func(p *Party) error { return breakAndMend(p, c, step) },
		} {
			if a, b := call(p), call(q); (a == nil) != (b == nil) {
				t.Fatalf("step %d: %v, want %v", step, a, b)
			}
		}
	}
}

// breakAndMend drops a client at some steps, and lets it join again at others, be it time for that or not.
func breakAndMend(p *Party, c, step int) error {
	switch step % 5 {
	case 2:
		return p.Drop(c)
	case 4:
		return p.Join(c)
	}
	return nil
}

// TestP1OutIsOfThen: what came out stays as it was, while the party goes on.
func TestP1OutIsOfThen(t *testing.T) {
	p := busy(t)
	before := servedBy(p)
	mine, yours := factsOf(t, p, 0), factsOf(t, p, 1)
	s, m, y := before.String(), mine.String(), yours.String()
	for range 3 {
		for _, call := range []func(int) error{p.Up, p.Down} {
			call(0)
			call(1)
		}
		p.Edit(0, remove(1))
		p.Edit(1, create(60, 0, 0))
	}
	if before.String() != s || mine.String() != m || yours.String() != y {
		t.Errorf("what came out has changed:\n%v\n%v\n%v\nwas\n%s\n%s\n%s", before, mine, yours, s, m, y)
	}
	if servedBy(p).String() == s || factsOf(t, p, 0).String() == m || factsOf(t, p, 1).String() == y {
		t.Error("the party has not gone on")
	}
}

// TestP1Apart: parties have nothing to do with one another.
func TestP1Apart(t *testing.T) {
	p, q, fresh := busy(t), begun(t, 2, 3), begun(t, 2, 3)
	do(t, p, "d0", "d1", "u1", "u1", "d1", "d1")
	edit(t, p, 0, remove(1))
	wantAlike(t, q, fresh)
}
