package party

import (
	"fmt"
	"math/rand/v2"
	"slices"
	"testing"

	"orchard/api"
	"orchard/tree"
)

// play draws events (the same each time) and keeps what can be seen from outside: the edits that were let in, the entries,
// and the tree that they make. It knows nothing of what is on its way.
type play struct {
	chance  *rand.Rand
	p       *Party
	log     int
	breaks  int          // of a hundred events, so many are drops
	edits   int          // and so many are edits
	events  int          // so far
	let     [][]api.Edit // by client
	entries []api.Entry
	now     *tree.Tree
	trees   []string // what comes of the first so many entries
	seen    map[string]int
}

func newPlay(t *testing.T, clients, log, breaks, edits int, seen map[string]int) *play {
	t.Helper()
	chance := rand.New(rand.NewPCG(uint64(100*clients+log), uint64(100*breaks+edits)))
	return &play{chance: chance, p: begun(t, clients, log), log: log, breaks: breaks, edits: edits,
		let: make([][]api.Edit, clients), now: tree.New(), trees: []string{text(tree.New())}, seen: seen}
}

func (y *play) event(t *testing.T) {
	t.Helper()
	y.events++
	c := y.chance.IntN(len(y.let))
	switch k := y.chance.IntN(100); {
	case k < y.breaks:
		y.drop(c)
	case k < 2*y.breaks+2:
		y.p.Join(c)
	case k < 2*y.breaks+2+y.edits:
		if e := anyEdit(y.chance); y.p.Edit(c, e) == nil {
			y.let[c] = append(y.let[c], e)
		}
	case k%2 == 0:
		y.up(t, c)
	default:
		y.down(t, c)
	}
}

func (y *play) drop(c int) {
	l := y.p.clients[c].line
	if y.p.Drop(c) == nil {
		y.seen[fmt.Sprintf("Drop, lost: up %t, down %t", len(l.up) > 0, len(l.down) > 0)]++
	}
}

// up takes note of a new entry. What the log does not show has to be the next edit of the client whose message came.
func (y *play) up(t *testing.T, c int) error {
	t.Helper()
	err := y.p.Up(c)
	_, n := y.p.Server()
	switch n - len(y.entries) {
	case 0:
		return err
	case 1:
	default:
		t.Fatalf("Up(%d): there are %d entries behind %d", c, n, len(y.entries))
	}
	e := api.Entry{Client: c, Seq: len(y.entriesOf(c)) + 1}
	if e.Seq > len(y.let[c]) {
		t.Fatalf("P13: Up(%d): an entry more than there are edits", c)
	}
	e.Edit = y.let[c][e.Seq-1]
	e.Done = y.now.Apply(e.Edit) == nil
	if kept := y.p.Log(); y.log > 0 && (len(kept) == 0 || kept[len(kept)-1] != e) {
		t.Fatalf("P13: Up(%d): the log is %v, want %v to be its last", c, kept, e)
	}
	y.entries = append(y.entries, e)
	y.trees = append(y.trees, text(y.now))
	y.seen[fmt.Sprintf("an entry, done %t", e.Done)]++
	return err
}

func (y *play) down(t *testing.T, c int) error {
	t.Helper()
	before := factsOf(t, y.p, c)
	err := y.p.Down(c)
	after := factsOf(t, y.p, c)
	if n := len(after.answers) - len(before.answers); after.entries > before.entries+1 {
		y.seen[fmt.Sprintf("a snapshot, answers %t, others pending %t", n > 0, len(after.pending) > 0)]++
	}
	return err
}

func (y *play) entriesOf(c int) []api.Entry {
	var list []api.Entry
	for _, e := range y.entries {
		if e.Client == c {
			list = append(list, e)
		}
	}
	return list
}

// settle lets all clients join, and all that is on its way come, in an order that is drawn.
func (y *play) settle(t *testing.T) {
	t.Helper()
	for _, c := range y.chance.Perm(len(y.let)) {
		y.p.Join(c)
	}
	for range 10000 {
		if y.comesUpOrDown(t) == 0 {
			return
		}
	}
	t.Fatal("P15: there is no end of messages")
}

func (y *play) comesUpOrDown(t *testing.T) int {
	t.Helper()
	came := 0
	for _, k := range y.chance.Perm(2 * len(y.let)) {
		way := y.up
		if k%2 == 1 {
			way = y.down
		}
		if way(t, k/2) == nil {
			came++
		}
	}
	return came
}

// playAll asks behind each event. Few breaks and many edits let queues grow long; many and few let the same be lost again
// and again, or nothing at all.
func playAll(t *testing.T, ask func(y *play)) {
	t.Helper()
	seen := map[string]int{}
	for clients := 1; clients <= api.MaxClients; clients++ {
		for log := 0; log <= api.MaxLog; log++ {
			for _, odds := range []struct{ breaks, edits int }{{0, 30}, {1, 10}, {3, 25}, {4, 6}, {8, 12}} {
				y := newPlay(t, clients, log, odds.breaks, odds.edits, seen)
				for range 500 {
					y.event(t)
					ask(y)
				}
			}
		}
	}
	wantSeen(t, seen, "an entry, done true", "an entry, done false",
		"Drop, lost: up false, down false", "Drop, lost: up true, down false", "Drop, lost: up false, down true", "Drop, lost: up true, down true",
		"a snapshot, answers false, others pending false", "a snapshot, answers false, others pending true",
		"a snapshot, answers true, others pending false", "a snapshot, answers true, others pending true")
}

func TestP12Drawn(t *testing.T) {
	playAll(t, func(y *play) {
		wantOne(t, servedBy(y.p).now)
		for c := range y.let {
			f := factsOf(t, y.p, c)
			wantOne(t, f.base)
			wantOne(t, f.view)
		}
	})
}

// wantOne looks for the nodes by their numbers, which are small ones here: to go through a tree from its root would leave
// out what hangs on nothing.
func wantOne(t *testing.T, x *tree.Tree) {
	t.Helper()
	found := 0
	for id := range 20 {
		n, ok := x.Find(id)
		if !ok {
			continue
		}
		found++
		for steps := 0; n.ID != 0; steps++ {
			parent, ok := x.Find(n.Parent)
			if !ok || steps > api.MaxNodes {
				t.Fatalf("P12: from node %d no parents lead to the root: %s", id, text(x))
			}
			n = parent
		}
	}
	if _, ok := x.Find(0); !ok || found != x.Len() {
		t.Fatalf("P12: %d nodes were found: %s", found, text(x))
	}
}

func TestP13Drawn(t *testing.T) {
	var made []int
	playAll(t, func(y *play) {
		if y.events == 1 {
			made = make([]int, len(y.let))
		}
		s := servedBy(y.p)
		if text(s.now) != y.trees[len(y.entries)] || s.entries != len(y.entries) {
			t.Fatalf("P13: %s\nwant %s of %d", s, y.trees[len(y.entries)], len(y.entries))
		}
		if kept := y.entries[max(0, len(y.entries)-y.log):]; !slices.Equal(s.log, kept) {
			t.Fatalf("P13: the log is %v, want %v", s.log, kept)
		}
		for c := range y.let {
			f := factsOf(t, y.p, c)
			if f.entries < made[c] || f.entries > len(y.entries) || text(f.base) != y.trees[f.entries] {
				t.Fatalf("P13: client %d has %s\nbehind a base of %d entries; the entries are %v", c, f, made[c], y.entries)
			}
			made[c] = f.entries
		}
	})
}

func TestP14Drawn(t *testing.T) {
	playAll(t, func(y *play) {
		for c, let := range y.let {
			f := factsOf(t, y.p, c)
			n := len(f.answers)
			if n > len(let) || !slices.Equal(f.pending, let[n:]) {
				t.Fatalf("P14: client %d has %s\nits edits are %v", c, f, let)
			}
			entries := y.entriesOf(c)
			for i, a := range f.answers {
				if i >= len(entries) || a != (api.Answer{Seq: i + 1, Done: entries[i].Done}) {
					t.Fatalf("P14: client %d has the answers %v, its entries are %v", c, f.answers, entries)
				}
			}
		}
	})
}

func TestP15Drawn(t *testing.T) {
	playAll(t, func(y *play) {
		if y.events%60 != 0 {
			return
		}
		y.settle(t)
		s := servedBy(y.p)
		for c, let := range y.let {
			f := factsOf(t, y.p, c)
			if len(f.pending) != 0 || len(f.answers) != len(let) || f.entries != s.entries || text(f.base) != text(s.now) || text(f.view) != text(s.now) {
				t.Fatalf("P15: client %d has %s\nand made %d edits; %s", c, f, len(let), s)
			}
		}
		idle(t, y.p, from(0, len(y.let)-1)...)
		for c := range y.let { // some are away when the next edits are made
			if y.breaks > 0 && y.chance.IntN(2) == 0 {
				y.drop(c)
			}
		}
	})
}
