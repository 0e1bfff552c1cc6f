package party

import (
	"fmt"
	"testing"

	"orchard/api"
	"orchard/tree"
)

// TestP9Example: the document's second example.
func TestP9Example(t *testing.T) {
	p := begun(t, 2, 1)
	do(t, p, "j0", "j1", "u0", "u1")
	e := create(1, 0, 0)
	edit(t, p, 0, e)
	wantFacts(t, p, 0, facts{base: tree.New(), view: grown(e), pending: []api.Edit{e}})
	wantFacts(t, p, 1, facts{base: tree.New(), view: tree.New()})
	edit(t, p, 1, e)
	do(t, p, "u0")
	wantServed(t, p, served{now: grown(e), entries: 1, log: []api.Entry{entry(0, 1, e, true)}})
	do(t, p, "u1")
	wantServed(t, p, served{now: grown(e), entries: 2, log: []api.Entry{entry(1, 1, e, false)}})
	do(t, p, "d0")
	wantFacts(t, p, 0, facts{base: grown(e), entries: 1, view: grown(e), answers: answered("+")})
	do(t, p, "d0")
	wantFacts(t, p, 0, facts{base: grown(e), entries: 2, view: grown(e), answers: answered("+")})
	waits := facts{base: tree.New(), view: grown(e), pending: []api.Edit{e}}
	wantFacts(t, p, 1, waits)
	do(t, p, "c1", "j1", "u1")
	wantFacts(t, p, 1, waits)
	do(t, p, "d1") // a snapshot
	want := facts{base: grown(e), entries: 2, view: grown(e), answers: answered("-")}
	wantFacts(t, p, 1, want)
	do(t, p, "u1") // its edit comes again
	wantServed(t, p, served{now: grown(e), entries: 2, log: []api.Entry{entry(1, 1, e, false)}})
	wantFacts(t, p, 1, want)
	idle(t, p, 0, 1)
}

// TestP9NotDone: an edit that the server's tree refuses is an entry like others, and changes no tree.
func TestP9NotDone(t *testing.T) {
	grow := []api.Edit{create(1, 0, 0), create(2, 1, 0)}
	for _, e := range []api.Edit{create(1, 0, 5), create(3, 9, 0), move(0, 1, 0), move(9, 0, 0), move(1, 2, 0), remove(0), remove(9), set(9, 0, 1)} {
		p := begun(t, 2, 8)
		do(t, p, "j0", "j1", "u0", "u1")
		edit(t, p, 0, grow...)
		edit(t, p, 1, e)
		do(t, p, "u0", "u0", "u1")
		wantServed(t, p, served{now: grown(grow...), entries: 3,
			log: []api.Entry{entry(0, 1, grow[0], true), entry(0, 2, grow[1], true), entry(1, 1, e, false)}})
		do(t, p, "d0", "d0", "d0", "d1", "d1")
		wantFacts(t, p, 0, facts{base: grown(grow...), entries: 3, view: grown(grow...), answers: answered("++")})
		wantFacts(t, p, 1, facts{base: grown(grow...), entries: 2, view: grown(grow...), pending: []api.Edit{e}})
		do(t, p, "d1")
		wantFacts(t, p, 1, facts{base: grown(grow...), entries: 3, view: grown(grow...), answers: answered("-")})
		idle(t, p, 0, 1)
	}
}

// TestP9DoneBehindARefusal: the server's tree decides, not the client's: what cannot be done in its view may be done there.
func TestP9DoneBehindARefusal(t *testing.T) {
	p := begun(t, 2, 8)
	do(t, p, "j0", "j1", "u0", "u1")
	edit(t, p, 1, set(1, 2, 7))
	edit(t, p, 0, create(1, 0, 0))
	wantFacts(t, p, 1, facts{base: tree.New(), view: tree.New(), pending: []api.Edit{set(1, 2, 7)}})
	do(t, p, "u0", "u1", "d1")
	wantFacts(t, p, 1, facts{base: grown(create(1, 0, 0)), entries: 1, view: grown(create(1, 0, 0), set(1, 2, 7)), pending: []api.Edit{set(1, 2, 7)}})
	do(t, p, "d1")
	both := grown(create(1, 0, 0), set(1, 2, 7))
	wantFacts(t, p, 1, facts{base: both, entries: 2, view: both, answers: answered("+")})
}

// TestP9Full: the server's tree refuses a node too many; the clients' views do so for themselves.
func TestP9Full(t *testing.T) {
	p := begun(t, 2, 1)
	do(t, p, "j0", "j1", "u0", "u1")
	var done []api.Edit
	for id := 1; id < api.MaxNodes; id++ {
		done = append(done, create(id, 0, id))
		edit(t, p, 0, done[id-1])
		do(t, p, "u0", "d0", "d1")
	}
	edit(t, p, 1, create(900, 0, 0))
	wantFacts(t, p, 1, facts{base: grown(done...), entries: 31, view: grown(done...), pending: []api.Edit{create(900, 0, 0)}})
	edit(t, p, 0, remove(4))
	do(t, p, "u1", "u0", "d1")
	wantFacts(t, p, 1, facts{base: grown(done...), entries: 32, view: grown(done...), answers: answered("-")})
	wantServed(t, p, served{now: grown(append(done, remove(4))...), entries: 33, log: []api.Entry{entry(0, 32, remove(4), true)}})
}

// TestP9Order: entries are in the order in which edits came up, whoever edited first; Seqs are each client's own.
func TestP9Order(t *testing.T) {
	p := begun(t, 3, 4)
	do(t, p, "j0", "j1", "j2", "u0", "u1", "u2")
	edit(t, p, 0, create(1, 0, 0), create(2, 0, 0))
	edit(t, p, 1, create(3, 0, 0))
	edit(t, p, 2, create(4, 0, 0), move(4, 1, 0))
	do(t, p, "u2", "u0", "u2", "u1", "u0")
	want := []api.Entry{entry(0, 1, create(1, 0, 0), true), entry(2, 2, move(4, 1, 0), true), entry(1, 1, create(3, 0, 0), true), entry(0, 2, create(2, 0, 0), true)}
	now := grown(create(4, 0, 0), create(1, 0, 0), move(4, 1, 0), create(3, 0, 0), create(2, 0, 0))
	wantServed(t, p, served{now: now, entries: 5, log: want})
	for c, answers := range []string{"++", "+", "++"} {
		wantTold(t, p, c, 1, 2, 3, 4, 5)
		wantFacts(t, p, c, facts{base: now, entries: 5, view: now, answers: answered(answers)})
	}
}

// TestP9WhoIsTold: who has joined and not come is told nothing till it comes, and then each entry once.
func TestP9WhoIsTold(t *testing.T) {
	p := begun(t, 3, 8)
	do(t, p, "j0", "u0", "j1")
	edit(t, p, 0, create(1, 0, 0))
	do(t, p, "u0")
	refuse(t, p, "Down", func() error { return p.Down(1) }, api.ErrNone, api.Edit{})
	refuse(t, p, "Down", func() error { return p.Down(2) }, api.ErrNone, api.Edit{})
	do(t, p, "u1")
	edit(t, p, 0, create(2, 0, 0))
	do(t, p, "u0")
	wantTold(t, p, 0, 1, 2)
	wantTold(t, p, 1, 1, 2)
	wantTold(t, p, 2)
	now := grown(create(1, 0, 0), create(2, 0, 0))
	wantFacts(t, p, 1, facts{base: now, entries: 2, view: now})
	wantFacts(t, p, 2, facts{base: tree.New(), view: tree.New()})
}

// TestP9Comes: with each Log, a client that comes so many entries late gets each that is kept, or else a snapshot.
func TestP9Comes(t *testing.T) {
	for log := 0; log <= api.MaxLog; log++ {
		for late := 0; late <= api.MaxLog+2; late++ {
			p := begun(t, 2, log)
			do(t, p, "j0", "u0")
			var done []api.Edit
			for id := 1; id <= late; id++ {
				done = append(done, create(id, id/2, 0))
				edit(t, p, 0, done[id-1])
				do(t, p, "u0", "d0")
			}
			own := create(500, late/2, 1)
			edit(t, p, 1, own)
			do(t, p, "j1", "u1")
			want := from(1, late)
			if late > log {
				want = []int{late}
			}
			wantTold(t, p, 1, want...)
			wantFacts(t, p, 1, facts{base: grown(done...), entries: late, view: grown(append(done, own)...), pending: []api.Edit{own}})
			do(t, p, "u1", "d1")
			now := grown(append(done, own)...)
			wantFacts(t, p, 1, facts{base: now, entries: late + 1, view: now, answers: answered("+")})
			do(t, p, "d0")
			idle(t, p, 0, 1)
		}
	}
}

// TestP9SnapshotOfThen: a snapshot is what the server had when it sent it; what comes later is told behind it.
func TestP9SnapshotOfThen(t *testing.T) {
	p := begun(t, 3, 0)
	do(t, p, "j0", "u0")
	edit(t, p, 0, create(1, 0, 0), create(2, 0, 0), set(1, 0, 5))
	do(t, p, "u0", "j1", "u1", "u0", "j2", "u2", "u0")
	wantServed(t, p, served{now: grown(create(1, 0, 0), create(2, 0, 0), set(1, 0, 5)), entries: 3})
	do(t, p, "d1")
	wantFacts(t, p, 1, facts{base: grown(create(1, 0, 0)), entries: 1, view: grown(create(1, 0, 0))})
	do(t, p, "d2")
	two := grown(create(1, 0, 0), create(2, 0, 0))
	wantFacts(t, p, 2, facts{base: two, entries: 2, view: two})
	wantTold(t, p, 1, 2, 3)
	wantTold(t, p, 2, 3)
	wantTold(t, p, 0, 1, 2, 3)
	for c := range 3 {
		if got := factsOf(t, p, c); text(got.base) != text(grown(create(1, 0, 0), create(2, 0, 0), set(1, 0, 5))) {
			t.Errorf("the base of client %d is %s", c, text(got.base))
		}
	}
}

// TestP9Again: an edit that comes again is nothing to the server, be it done or not, kept in the log or not.
func TestP9Again(t *testing.T) {
	for log := 0; log <= 3; log++ {
		p := begun(t, 2, log)
		do(t, p, "j0", "j1", "u0", "u1")
		edit(t, p, 0, create(1, 0, 0), create(1, 0, 0), remove(1))
		do(t, p, "u0", "u0", "u0")
		before := servedBy(p)
		do(t, p, "c0", "j0", "u0", "u0", "u0", "u0") // that it comes, and each edit once more
		wantServed(t, p, before)
		do(t, p, "d1", "d1", "d1")
		want := []int{1, 2, 3}
		if log < 3 {
			want = []int{3}
		}
		wantTold(t, p, 0, want...)
		idle(t, p, 0, 1)
		wantFacts(t, p, 0, facts{base: tree.New(), entries: 3, view: tree.New(), answers: answered("+-+")})
		edit(t, p, 0, create(7, 0, 0))
		do(t, p, "u0", "d0")
		wantFacts(t, p, 0, facts{base: grown(create(7, 0, 0)), entries: 4, view: grown(create(7, 0, 0)),
			answers: answered("+-++")})
	}
}

// TestP9Lacking: a snapshot has the answers that its client has not got, and no others: not those in its base, nor another's.
func TestP9Lacking(t *testing.T) {
	for got := 0; got <= api.MaxPending-1; got++ {
		p := begun(t, 2, 0)
		do(t, p, "j0", "j1", "u0", "u1")
		var answers []api.Answer
		for i := 1; i <= api.MaxPending; i++ {
			edit(t, p, 0, create(1, 0, 0)) // the first is done
			edit(t, p, 1, set(1, 0, i))
			do(t, p, "u0", "u1")
			answers = append(answers, api.Answer{Seq: i, Done: i == 1})
		}
		for range 2 * got {
			do(t, p, "d0")
		}
		if a := factsOf(t, p, 0).answers; len(a) != got {
			t.Fatalf("the client has the answers %v, want %d", a, got)
		}
		do(t, p, "c0", "j0", "u0", "d0")
		now := grown(create(1, 0, 0), set(1, 0, api.MaxPending))
		wantFacts(t, p, 0, facts{base: now, entries: 2 * api.MaxPending, view: now, answers: answers})
		for range api.MaxPending - got {
			do(t, p, "u0")
		}
		idle(t, p, 0)
		wantTold(t, p, 1, 1, 2, 3, 4, 5, 6, 7, 8, 9, 10, 11, 12)
	}
}

// TestP10SnapshotLeavesPending: edits that the server has not taken by then stay pending, and are taken when they come.
func TestP10SnapshotLeavesPending(t *testing.T) {
	p := begun(t, 2, 1)
	do(t, p, "j0", "u0")
	edit(t, p, 0, create(1, 0, 0), create(2, 1, 0), create(3, 2, 0), create(4, 3, 0))
	do(t, p, "u0", "u0", "c0", "j0", "u0", "d0")
	wantFacts(t, p, 0, facts{base: grown(create(1, 0, 0), create(2, 1, 0)), entries: 2,
		view:    grown(create(1, 0, 0), create(2, 1, 0), create(3, 2, 0), create(4, 3, 0)),
		pending: []api.Edit{create(3, 2, 0), create(4, 3, 0)}, answers: answered("++")})
	do(t, p, "u0", "u0", "u0") // two again, and one anew
	wantServed(t, p, served{now: grown(create(1, 0, 0), create(2, 1, 0), create(3, 2, 0)), entries: 3, log: []api.Entry{entry(0, 3, create(3, 2, 0), true)}})
	do(t, p, "u0", "d0", "d0")
	idle(t, p, 0)
	wantFacts(t, p, 0, facts{base: grown(create(1, 0, 0), create(2, 1, 0), create(3, 2, 0), create(4, 3, 0)), entries: 4,
		view:    grown(create(1, 0, 0), create(2, 1, 0), create(3, 2, 0), create(4, 3, 0)),
		answers: answered("++++")})
}

// TestP9AnsweredIsBounded: what the server keeps of answers does not grow with the entries.
func TestP9AnsweredIsBounded(t *testing.T) {
	p := begun(t, api.MaxClients, 2)
	for c := range api.MaxClients {
		do(t, p, fmt.Sprint("j", c), fmt.Sprint("u", c))
	}
	for i := range 200 {
		c := i % api.MaxClients
		edit(t, p, c, set(0, 0, i))
		do(t, p, fmt.Sprint("u", c))
		for other := range api.MaxClients {
			do(t, p, fmt.Sprint("d", other))
		}
	}
	if n := len(p.server.answered); n > api.MaxClients*api.MaxPending {
		t.Errorf("the server keeps %d answers", n)
	}
}
