package party

import (
	"fmt"
	"slices"
	"testing"

	"orchard/api"
	"orchard/tree"
)

// wantDrop: the client drops, which loses what is on its way, and nothing that anybody is told of.
func wantDrop(t *testing.T, p *Party, client int) {
	t.Helper()
	before := all(t, p)
	do(t, p, fmt.Sprint("c", client))
	if after := all(t, p); after != before {
		t.Fatalf("P8: Drop(%d) leaves\n%s\nof\n%s", client, after, before)
	}
	idle(t, p, client)
}

// TestP8Drop: with so many messages on their way up and down; those of another stay on theirs.
func TestP8Drop(t *testing.T) {
	for up := range 4 {
		for down := range 4 {
			p := begun(t, 2, api.MaxLog)
			do(t, p, "j0", "j1", "u0", "u1")
			for i := range down {
				edit(t, p, 1, set(0, 1, i))
				do(t, p, "u1")
			}
			for i := range up {
				edit(t, p, 0, set(0, 0, i))
			}
			edit(t, p, 1, set(0, 2, 5))
			wantDrop(t, p, 0)
			do(t, p, "u1", "j0")
			there := down + 1
			wantRisen(t, p, 0, append([]int{there}, from(there+1, there+up)...)...) // that it comes, and each edit once
			wantTold(t, p, 0, from(1, there+up)...)
			wantTold(t, p, 1, from(1, there+up)...)
			idle(t, p, 0, 1)
		}
	}
}

// TestP8DropBeforeItCame: that it comes is a message like others, and is lost like them.
func TestP8DropBeforeItCame(t *testing.T) {
	p := begun(t, 2, api.MaxLog)
	do(t, p, "j1", "u1")
	edit(t, p, 0, create(1, 0, 0))
	for range 3 {
		do(t, p, "j0")
		wantDrop(t, p, 0)
	}
	edit(t, p, 1, create(2, 0, 0))
	do(t, p, "u1", "d1")
	idle(t, p, 0, 1)
	do(t, p, "j0")
	wantRisen(t, p, 0, 1, 2)
	wantTold(t, p, 0, 1, 2)
	wantTold(t, p, 1, 2)
}

// TestP8DropNotJoined: be it that it never has, or has not any more; nor does it hang on what is pending.
func TestP8DropNotJoined(t *testing.T) {
	drop := func(p *Party, c int) {
		t.Helper()
		for range 2 {
			refuse(t, p, "Drop", func() error { return p.Drop(c) }, api.ErrJoined, api.Edit{})
		}
	}
	p, once := busy(t), busy(t)
	do(t, p, "c0")
	do(t, once, "c0")
	drop(p, 0)
	refuse(t, p, "Join", func() error { return p.Join(1) }, api.ErrJoined, api.Edit{}) // another's line is another
	wantAlike(t, p, once)

	p, fresh := begun(t, 2, 1), begun(t, 2, 1)
	drop(p, 0)
	edit(t, p, 0, create(1, 0, 0))
	edit(t, fresh, 0, create(1, 0, 0))
	drop(p, 0)
	do(t, p, "j0", "u0", "u0", "c0")
	do(t, fresh, "j0", "u0", "u0", "c0")
	drop(p, 0)
	do(t, p, "j0")
	do(t, fresh, "j0")
	refuse(t, p, "Join", func() error { return p.Join(0) }, api.ErrJoined, api.Edit{})
	wantAlike(t, p, fresh)
}

// TestP9NotTold: nothing comes to a client that has dropped, nor to one that has joined again and not come.
func TestP9NotTold(t *testing.T) {
	p := begun(t, 3, api.MaxLog)
	do(t, p, "j0", "j1", "j2", "u0", "u1", "u2")
	edit(t, p, 0, create(1, 0, 0), create(2, 0, 0), create(3, 0, 0), create(4, 0, 0))
	do(t, p, "u0", "d1", "c1", "u0")
	idle(t, p, 1)
	do(t, p, "j1", "u0")
	refuse(t, p, "Down", func() error { return p.Down(1) }, api.ErrNone, api.Edit{})
	do(t, p, "u1", "u0")
	wantTold(t, p, 1, 2, 3, 4)
	wantTold(t, p, 0, 1, 2, 3, 4)
	wantTold(t, p, 2, 1, 2, 3, 4)
	idle(t, p, 0, 1, 2)
}

// TestP8EditsWhileAway: edits between Drop and Join are let in as at other times, and sent behind those that were pending.
func TestP8EditsWhileAway(t *testing.T) {
	p := begun(t, 1, api.MaxLog)
	do(t, p, "j0", "u0")
	e := []api.Edit{create(1, 0, 0), create(2, 1, 0), create(3, 2, 0), create(2, 0, 0), set(3, 1, 4), remove(9), move(3, 0, 0)}
	edit(t, p, 0, e[:3]...)
	do(t, p, "u0", "d0", "u0", "c0")
	edit(t, p, 0, e[3:]...)
	refuse(t, p, "Edit", func() error { return p.Edit(0, remove(1)) }, api.ErrQueue, remove(1))
	refuse(t, p, "Edit", func() error { return p.Edit(0, remove(-1)) }, api.ErrArg, remove(-1))
	idle(t, p, 0)
	wantFacts(t, p, 0, facts{base: grown(e[0]), entries: 1, view: grown(e...), pending: e[1:], answers: answered("+")})
	do(t, p, "j0")
	wantRisen(t, p, 0, 2, 2, 3, 4, 5, 6, 7)
	var log []api.Entry
	for i, done := range []bool{true, true, true, false, true, false, true} {
		log = append(log, entry(0, i+1, e[i], done))
	}
	wantServed(t, p, served{now: grown(e...), entries: 7, log: log})
	wantTold(t, p, 0, from(2, 7)...)
	wantFacts(t, p, 0, facts{base: grown(e...), entries: 7, view: grown(e...), answers: answered("+++-+-+")})
}

// TestP9ComesAgain: with each Log, a client that knows some entries and has missed others gets these, or else a snapshot.
func TestP9ComesAgain(t *testing.T) {
	for log := 0; log <= api.MaxLog; log++ {
		for knows := range 4 {
			for missed := 0; missed <= api.MaxLog+2; missed++ {
				comesAgain(t, log, knows, missed)
			}
		}
	}
}

func comesAgain(t *testing.T, log, knows, missed int) {
	t.Helper()
	p := begun(t, 2, log)
	do(t, p, "j0", "j1", "u0", "u1")
	var done []api.Edit
	for id := 1; id <= knows+missed; id++ {
		if id == knows+1 {
			do(t, p, "c1")
		}
		done = append(done, create(id, id/2, 0))
		edit(t, p, 0, done[id-1])
		do(t, p, "u0", "d0")
		if id <= knows {
			do(t, p, "d1")
		}
	}
	if missed == 0 {
		do(t, p, "c1")
	}
	do(t, p, "j1", "u1")
	wantFacts(t, p, 1, facts{base: grown(done[:knows]...), entries: knows, view: grown(done[:knows]...)})
	want := from(knows+1, knows+missed)
	if missed > log {
		want = []int{knows + missed}
	}
	wantTold(t, p, 1, want...)
	wantFacts(t, p, 1, facts{base: grown(done...), entries: knows + missed, view: grown(done...)})
	idle(t, p, 0, 1)
}

// halfDone: so many edits, of which every second one is not done.
func halfDone(n int) (edits []api.Edit, answers []api.Answer) {
	for i := 1; i <= n; i++ {
		edits = append(edits, create((i+1)/2, 0, i))
		answers = append(answers, api.Answer{Seq: i, Done: i%2 == 1})
	}
	return edits, answers
}

// TestP8ToP10EveryBreak: of the edits that a client made, some were taken, and of these some were answered, when the line
// broke: the answers of the one and the edits of the other are lost. It joins again, and nothing is lacking or taken twice.
func TestP8ToP10EveryBreak(t *testing.T) {
	for log := 0; log <= api.MaxLog; log++ {
		for made := 0; made <= api.MaxPending; made++ {
			for taken := 0; taken <= made; taken++ {
				for got := 0; got <= taken; got++ {
					s := broken{log, made, taken, got}
					t.Run(fmt.Sprintf("%+v", s), func(t *testing.T) {
						s.downFirst(t)
						s.upFirst(t)
					})
				}
			}
		}
	}
}

type broken struct{ log, made, taken, got int }

// again: the party when the client has joined again, and come.
func (s broken) again(t *testing.T) *Party {
	t.Helper()
	p := begun(t, 1, s.log)
	edits, answers := halfDone(s.made)
	do(t, p, "j0", "u0")
	edit(t, p, 0, edits...)
	for range s.taken {
		do(t, p, "u0")
	}
	for range s.got {
		do(t, p, "d0")
	}
	wantDrop(t, p, 0)
	do(t, p, "j0", "u0")
	wantFacts(t, p, 0, facts{base: grown(edits[:s.got]...), entries: s.got, view: grown(edits...), pending: edits[s.got:], answers: answers[:s.got]})
	return p
}

// sent: of how many entries the base is made behind each message that the client is sent when it has come.
func (s broken) sent() []int {
	if s.taken-s.got > s.log {
		return []int{s.taken}
	}
	return from(s.got+1, s.taken)
}

// comesUp: how many entries there are behind each edit that the client sends again, or anew.
func (s broken) comesUp() []int {
	return append(slices.Repeat([]int{s.taken}, s.taken-s.got), from(s.taken+1, s.made)...)
}

func (s broken) wantAll(t *testing.T, p *Party) {
	t.Helper()
	edits, answers := halfDone(s.made)
	now := grown(edits...)
	wantFacts(t, p, 0, facts{base: now, entries: s.made, view: now, answers: answers})
	idle(t, p, 0)
}

func (s broken) downFirst(t *testing.T) {
	t.Helper()
	p := s.again(t)
	edits, answers := halfDone(s.made)
	wantTold(t, p, 0, s.sent()...)
	wantFacts(t, p, 0, facts{base: grown(edits[:s.taken]...), entries: s.taken, view: grown(edits...), pending: edits[s.taken:], answers: answers[:s.taken]})
	wantRisen(t, p, 0, s.comesUp()...)
	wantTold(t, p, 0, from(s.taken+1, s.made)...)
	s.wantAll(t, p)
}

func (s broken) upFirst(t *testing.T) {
	t.Helper()
	p := s.again(t)
	wantRisen(t, p, 0, s.comesUp()...)
	wantTold(t, p, 0, append(s.sent(), from(s.taken+1, s.made)...)...)
	s.wantAll(t, p)
}

// TestP10SomeAnswers: a snapshot answers some pending edits and not others, whoever's entries lie between; the others are
// answered when they are taken, and another's answers are not this client's.
func TestP10SomeAnswers(t *testing.T) {
	p := begun(t, 2, 1)
	do(t, p, "j0", "j1", "u0", "u1")
	mine := []api.Edit{create(1, 0, 0), create(2, 9, 0), create(3, 1, 0), set(3, 0, 1), remove(1)}
	edit(t, p, 0, mine...)
	do(t, p, "u0")
	edit(t, p, 1, create(9, 1, 0), move(9, 0, 0), remove(77))
	do(t, p, "u1", "u0", "u1", "u0", "u1", "c0", "j0", "u0")
	edit(t, p, 1, set(9, 1, 8))
	do(t, p, "u1", "d0") // the snapshot is of before that
	six := []api.Edit{create(1, 0, 0), create(9, 0, 0), create(2, 9, 0), create(3, 1, 0)}
	wantFacts(t, p, 0, facts{base: grown(six...), entries: 6, view: grown(append(six, mine[3:]...)...), pending: mine[3:], answers: answered("+++")})
	wantRisen(t, p, 0, 7, 7, 7, 8, 9)
	wantTold(t, p, 0, 7, 8, 9)
	now := grown(append(six, set(9, 1, 8), set(3, 0, 1), remove(1))...)
	wantFacts(t, p, 0, facts{base: now, entries: 9, view: now, answers: answered("+++++")})
	wantTold(t, p, 1, from(1, 9)...)
	wantFacts(t, p, 1, facts{base: now, entries: 9, view: now, answers: answered("++-+")})
}

// TestP10SnapshotLost: a snapshot that was sent and did not come changes nothing; the next has all that was in it, and more.
func TestP10SnapshotLost(t *testing.T) {
	p := begun(t, 2, 0)
	do(t, p, "j0", "j1", "u0", "u1")
	edits, answers := halfDone(api.MaxPending)
	edit(t, p, 0, edits...)
	waits := facts{base: tree.New(), view: grown(edits...), pending: edits}
	for again := range api.MaxPending {
		do(t, p, "c0", "j0", "u0") // a snapshot, but for the first time
		for range again {
			do(t, p, "u0") // what was taken
		}
		do(t, p, "u0")
		wantDrop(t, p, 0)
		wantFacts(t, p, 0, waits)
		if n := servedBy(p).entries; n != again+1 {
			t.Fatalf("the server has taken %d edits, want %d", n, again+1)
		}
		do(t, p, "j0")
	}
	edit(t, p, 1, set(0, 3, 3))
	do(t, p, "u1", "u0", "d0")
	now := grown(append(edits, set(0, 3, 3))...)
	wantFacts(t, p, 0, facts{base: now, entries: 7, view: now, answers: answers})
	wantRisen(t, p, 0, slices.Repeat([]int{7}, 6)...)
	idle(t, p, 0)
	wantTold(t, p, 1, from(1, 7)...)
}

// TestP10SnapshotCame: what a snapshot has answered is not answered by the next; behind it edits and Seqs go on.
func TestP10SnapshotCame(t *testing.T) {
	p := begun(t, 1, 0)
	var done []api.Edit
	for i := 1; i <= 3*api.MaxPending; i++ {
		done = append(done, create(i, i/2, 0))
		edit(t, p, 0, done[i-1])
		do(t, p, "j0", "u0", "u0", "c0", "j0", "u0", "d0")
		wantFacts(t, p, 0, facts{base: grown(done...), entries: i, view: grown(done...), answers: answered("++++++++++++++++++"[:i])})
		wantRisen(t, p, 0, i)
		idle(t, p, 0)
		do(t, p, "c0", "j0", "u0") // with nothing behind, nothing is sent
		idle(t, p, 0)
		do(t, p, "c0")
	}
}

// TestP9QueueFilledAgain: a client that is answered by a snapshot may fill its queue while the edits that it has sent again
// are still on their way: these are known to the server to the last.
func TestP9QueueFilledAgain(t *testing.T) {
	for log := 0; log <= api.MaxLog; log++ {
		p := begun(t, 1, log)
		do(t, p, "j0", "u0")
		var edits []api.Edit
		for i := 1; i <= 4*api.MaxPending; i++ {
			edits = append(edits, set(0, 0, i))
			edit(t, p, 0, edits[i-1])
			if i%api.MaxPending != 0 {
				continue
			}
			risen(p, 0)
			wantDrop(t, p, 0)
			do(t, p, "j0", "u0")
			told(t, p, 0)
			wantServed(t, p, served{now: grown(edits...), entries: i, log: setEntries(edits, log)})
			wantFacts(t, p, 0, facts{base: grown(edits...), entries: i, view: grown(edits...), answers: answered("++++++++++++++++++++++++"[:i])})
		}
		wantRisen(t, p, 0, slices.Repeat([]int{4 * api.MaxPending}, api.MaxPending)...)
		idle(t, p, 0)
	}
}

// setEntries: the last entries of client 0, if all its edits were done.
func setEntries(edits []api.Edit, most int) []api.Entry {
	var list []api.Entry
	for i, e := range edits {
		list = append(list, entry(0, i+1, e, true))
	}
	return list[max(0, len(list)-most):]
}

// TestP1DropOfThen: what came out stays as it was when the line breaks, and nothing hangs on what is written into it.
func TestP1DropOfThen(t *testing.T) {
	p, untouched := busy(t), busy(t)
	for _, q := range []*Party{p, untouched} {
		do(t, q, "d1", "u1", "c1", "c0", "j0", "j1", "u0", "u1", "d1") // client 1 has got a snapshot, and an answer that was lost at first
	}
	out := []facts{factsOf(t, p, 0), factsOf(t, p, 1)}
	before := fmt.Sprint(out, servedBy(p))
	server := servedBy(p)
	do(t, p, "c0", "c1")
	do(t, untouched, "c0", "c1")
	if after := fmt.Sprint(out, server); after != before {
		t.Fatalf("what came out has changed to\n%s\nfrom\n%s", after, before)
	}
	for _, f := range out {
		for _, x := range []*tree.Tree{f.base, f.view, server.now} {
			x.Apply(remove(1))
			x.Apply(create(70, 0, 0))
		}
		spoil(f.pending, api.Edit{Kind: 77})
		spoil(f.answers, api.Answer{Seq: 77})
	}
	spoil(server.log, api.Entry{Seq: 77})
	wantAlike(t, p, untouched)
}
