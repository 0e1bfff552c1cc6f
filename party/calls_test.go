package party

import (
	"fmt"
	"slices"
	"testing"

	"orchard/api"
	"orchard/tree"
)

func TestP6Bounds(t *testing.T) {
	let := func(n, least, most int) bool { return least <= n && n <= most }
	numbers := append(oddNumbers(), -1, 0, 1, 2, 3, 4, 5, 6, 7, 8, 9, 10)
	for _, clients := range numbers {
		for _, log := range numbers {
			p, err := New(api.Config{Clients: clients, Log: log})
			if let(clients, 1, 4) && let(log, 0, 8) {
				if err != nil || p == nil {
					t.Errorf("New(%d, %d) = %v, %v, want a party", clients, log, p, err)
				}
				continue
			}
			wantRefusal(t, fmt.Sprintf("New(%d, %d)", clients, log), err, api.ErrArg, api.Edit{})
			if p != nil {
				t.Errorf("New(%d, %d) = %v beside an error, want nil", clients, log, p)
			}
		}
	}
}

func TestP6Begins(t *testing.T) {
	for clients := 1; clients <= api.MaxClients; clients++ {
		for log := 0; log <= api.MaxLog; log++ {
			p := begun(t, clients, log)
			wantServed(t, p, served{now: tree.New()})
			for c := range clients {
				wantFacts(t, p, c, facts{base: tree.New(), view: tree.New()})
				refuse(t, p, "Drop", func() error { return p.Drop(c) }, api.ErrJoined, api.Edit{})
				idle(t, p, c)
			}
		}
	}
}

// TestP7ToP11Nobody: clients that there are none of, in a party where each call would do something.
func TestP7ToP11Nobody(t *testing.T) {
	for clients := 1; clients <= api.MaxClients; clients++ {
		p := begun(t, clients, 2)
		for c := range clients {
			do(t, p, fmt.Sprint("j", c), fmt.Sprint("u", c))
			edit(t, p, c, create(c+1, 0, 0), create(c+10, 0, 0))
			do(t, p, fmt.Sprint("u", c))
		}
		for _, c := range append(oddNumbers(), clients, clients+1, api.MaxClients, api.MaxClients+1) {
			if c < 0 || c >= clients {
				nobody(t, p, c)
			}
		}
	}
}

func nobody(t *testing.T, p *Party, c int) {
	t.Helper()
	var x, y *tree.Tree
	var n int
	var pending []api.Edit
	var answers []api.Answer
	calls := map[string]func() error{
		"Join":    func() error { return p.Join(c) },
		"Drop":    func() error { return p.Drop(c) },
		"Up":      func() error { return p.Up(c) },
		"Down":    func() error { return p.Down(c) },
		"View":    func() (err error) { x, err = p.View(c); return },
		"Base":    func() (err error) { y, n, err = p.Base(c); return },
		"Pending": func() (err error) { pending, err = p.Pending(c); return },
		"Answers": func() (err error) { answers, err = p.Answers(c); return },
	}
	for name, call := range calls {
		refuse(t, p, fmt.Sprintf("%s(%d)", name, c), call, api.ErrArg, api.Edit{})
	}
	for _, e := range []api.Edit{create(5, 0, 0), {}, {Kind: 9, Node: -1}} {
		refuse(t, p, fmt.Sprintf("Edit(%d)", c), func() error { return p.Edit(c, e) }, api.ErrArg, e)
	}
	if x != nil || y != nil || n != 0 || pending != nil || answers != nil {
		t.Fatalf("client %d: %v, %v, %d, %v, %v beside errors, want nothing", c, x, y, n, pending, answers)
	}
}

// wrongEdits: Apply answers ErrArg to them, whatever the tree.
func wrongEdits() []api.Edit {
	list := []api.Edit{{}, {Kind: 5}, {Kind: 5, Node: 1}, create(1001, 0, 0), create(1, 1001, 0), create(1, 0, 1001), move(1, 0, 1001),
		move(0, 0, -1), move(1, -1, 0), remove(1001), remove(-1), set(1, 4, 0), set(1, -1, 0), set(1, 0, 1000001), set(-1, 0, 0)}
	for _, n := range oddNumbers() {
		list = append(list, api.Edit{Kind: n, Node: 1}, create(n, 0, 0), create(1, n, 0), create(1, 0, n), move(n, 0, 0), move(1, n, 0),
			move(1, 0, n), remove(n), set(n, 0, 0), set(1, n, 0), set(1, 0, n))
	}
	return list
}

func TestP7WrongEdits(t *testing.T) {
	p := begun(t, 2, 4)
	do(t, p, "j1", "u1")
	for _, e := range wrongEdits() {
		for c := range 2 {
			refuse(t, p, "Edit", func() error { return p.Edit(c, e) }, api.ErrArg, e)
		}
	}
	idle(t, p, 0, 1)
}

// TestP7WhetherDone: an edit that no tree there is would let be done is let in all the same.
func TestP7WhetherDone(t *testing.T) {
	for _, e := range []api.Edit{create(0, 0, 0), create(2, 7, 0), move(0, 0, 0), move(3, 0, 0), remove(0), remove(1000), set(9, 3, 1000000)} {
		p := begun(t, 1, 1)
		edit(t, p, 0, e)
		wantFacts(t, p, 0, facts{base: tree.New(), view: tree.New(), pending: []api.Edit{e}})
	}
}

// TestP7AsHandedIn: what an edit's kind does not speak of is neither looked at nor lost.
func TestP7AsHandedIn(t *testing.T) {
	odd := []api.Edit{
		{Kind: api.Create, Node: 1, Parent: 0, Key: 3, Prop: -9, Value: -7},
		{Kind: api.Set, Node: 1, Parent: -5, Key: 4000, Prop: 1, Value: 2},
		{Kind: api.Move, Node: 1, Parent: 0, Key: 8, Prop: 77, Value: 1 << 40},
		{Kind: api.Delete, Node: 1, Parent: -1, Key: -1, Prop: -1, Value: -1},
		{Kind: api.Delete, Node: 0, Parent: 6, Key: 5, Prop: 4, Value: 3},
		{Kind: api.Set, Node: 9, Parent: 1 << 50, Key: -1 << 50, Prop: 3, Value: 0},
	}
	p := begun(t, 1, 8)
	edit(t, p, 0, odd...)
	if got := factsOf(t, p, 0).pending; !slices.Equal(got, odd) {
		t.Fatalf("Pending has %+v, want %+v", got, odd)
	}
	more := api.Edit{Kind: api.Delete, Node: 2, Parent: 9999, Value: -2}
	refuse(t, p, "Edit", func() error { return p.Edit(0, more) }, api.ErrQueue, more)
	do(t, p, "j0", "u0", "u0", "u0", "u0", "u0", "u0", "u0")
	var want []api.Entry
	for i, e := range odd {
		want = append(want, api.Entry{Client: 0, Seq: i + 1, Edit: e, Done: i < 4})
	}
	wantServed(t, p, served{now: tree.New(), entries: 6, log: want})
}

func TestP7FullQueue(t *testing.T) {
	for _, joined := range []bool{false, true} {
		p := begun(t, 2, 8)
		if joined {
			do(t, p, "j0")
		}
		var six []api.Edit
		for i := 1; i <= api.MaxPending; i++ {
			six = append(six, create(i, 0, i))
		}
		edit(t, p, 0, six...)
		full := facts{base: tree.New(), view: grown(six...), pending: six}
		for range 3 {
			refuse(t, p, "Edit", func() error { return p.Edit(0, create(9, 0, 0)) }, api.ErrQueue, create(9, 0, 0))
			refuse(t, p, "Edit", func() error { return p.Edit(0, create(9, 0, -1)) }, api.ErrArg, create(9, 0, -1))
		}
		wantFacts(t, p, 0, full)
		edit(t, p, 1, create(9, 0, 9)) // the queue of another is another
		if !joined {
			do(t, p, "j0")
		}
		do(t, p, "u0", "u0", "u0")                                                                  // that it comes, and two of the edits
		refuse(t, p, "Edit", func() error { return p.Edit(0, remove(1)) }, api.ErrQueue, remove(1)) // taken is not answered yet
		do(t, p, "d0")
		edit(t, p, 0, remove(1))
		refuse(t, p, "Edit", func() error { return p.Edit(0, remove(2)) }, api.ErrQueue, remove(2))
		wantFacts(t, p, 0, facts{base: grown(six[0]), entries: 1, view: grown(append(slices.Clone(six), remove(1))...),
			pending: append(slices.Clone(six[1:]), remove(1)), answers: answered("+")})
		do(t, p, "u0", "u0", "u0", "u0", "u0", "d0", "d0", "d0", "d0", "d0", "d0")
		idle(t, p, 0) // what was refused was not sent, and has no Seq
		wantFacts(t, p, 0, facts{base: grown(six[1:]...), entries: 7, view: grown(six[1:]...),
			answers: answered("+++++++")})
	}
}

func TestP7BeforeAndBehindJoining(t *testing.T) {
	p := begun(t, 2, 8)
	edit(t, p, 0, create(1, 0, 0), create(2, 1, 0))
	idle(t, p, 0) // who has not joined sends nothing
	do(t, p, "j0")
	edit(t, p, 0, create(3, 2, 0))
	do(t, p, "u0") // that it comes
	wantServed(t, p, served{now: tree.New()})
	edit(t, p, 0, create(4, 3, 0))
	wantFacts(t, p, 0, facts{base: tree.New(), view: grown(create(1, 0, 0), create(2, 1, 0), create(3, 2, 0), create(4, 3, 0)),
		pending: []api.Edit{create(1, 0, 0), create(2, 1, 0), create(3, 2, 0), create(4, 3, 0)}})
	var log []api.Entry
	var done []api.Edit
	for i := 1; i <= 4; i++ {
		do(t, p, "u0")
		log = append(log, api.Entry{Client: 0, Seq: i, Edit: create(i, i-1, 0), Done: true})
		done = append(done, create(i, i-1, 0))
		wantServed(t, p, served{now: grown(done...), entries: i, log: log})
	}
	do(t, p, "d0", "d0", "d0", "d0")
	idle(t, p, 0, 1)
}

func TestP8Join(t *testing.T) {
	p := begun(t, 2, 8)
	edit(t, p, 0, create(1, 0, 0))
	do(t, p, "j0")
	for range 2 {
		refuse(t, p, "Join", func() error { return p.Join(0) }, api.ErrJoined, api.Edit{})
	}
	refuse(t, p, "Drop", func() error { return p.Drop(1) }, api.ErrJoined, api.Edit{})
	refuse(t, p, "Down", func() error { return p.Down(0) }, api.ErrNone, api.Edit{})
	do(t, p, "u0")
	refuse(t, p, "Join", func() error { return p.Join(0) }, api.ErrJoined, api.Edit{})
	do(t, p, "u0", "d0")
	idle(t, p, 0, 1) // it came once, and its edit was sent once
	do(t, p, "j1", "u1", "d1")
	idle(t, p, 0, 1)
}
