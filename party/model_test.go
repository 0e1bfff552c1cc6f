package party

import (
	"errors"
	"fmt"
	"math/rand/v2"
	"slices"
	"testing"

	"orchard/api"
	"orchard/tree"
)

// model is the document's words once more, to hold the party against. It keeps every entry there ever was, and of a
// client's base only of how many of these it is made: all that a client is told of follows from that (P13, P14).
type model struct {
	log     int
	entries []api.Entry
	clients []modelClient
}

type modelClient struct {
	joined, told bool
	made         int        // of how many entries the base is made
	edits        []api.Edit // all that were let in
	up           []int      // Seqs; 0: that it comes
	down         []int      // of how many entries the base is made behind the message
}

func (m *model) applied(n int) *tree.Tree {
	x := tree.New()
	for _, e := range m.entries[:n] {
		if e.Done {
			x.Apply(e.Edit)
		}
	}
	return x
}

func (m *model) facts(client int) facts {
	c := m.clients[client]
	f := facts{base: m.applied(c.made), entries: c.made, view: m.applied(c.made), pending: slices.Clone(c.edits)}
	for _, e := range m.entries[:c.made] {
		if e.Client == client {
			f.answers = append(f.answers, api.Answer{Seq: e.Seq, Done: e.Done})
			f.pending = f.pending[1:]
		}
	}
	for _, e := range f.pending {
		f.view.Apply(e)
	}
	return f
}

func (m *model) served() served {
	n := len(m.entries)
	return served{now: m.applied(n), entries: n, log: m.entries[max(0, n-m.log):]}
}

func (m *model) edit(client int, e api.Edit) error {
	c := &m.clients[client]
	if errors.Is(tree.New().Apply(e), api.ErrArg) {
		return api.ErrArg
	}
	if len(m.facts(client).pending) == 6 {
		return api.ErrQueue
	}
	c.edits = append(c.edits, e)
	if c.joined {
		c.up = append(c.up, len(c.edits))
	}
	return nil
}

func (m *model) join(client int) error {
	c := &m.clients[client]
	if c.joined {
		return api.ErrJoined
	}
	c.joined, c.up = true, []int{0}
	for seq := len(c.edits) - len(m.facts(client).pending) + 1; seq <= len(c.edits); seq++ {
		c.up = append(c.up, seq)
	}
	return nil
}

func (m *model) drop(client int) error {
	c := &m.clients[client]
	if !c.joined {
		return api.ErrJoined
	}
	c.joined, c.told, c.up, c.down = false, false, nil, nil
	return nil
}

func (m *model) upward(client int) error {
	c := &m.clients[client]
	if len(c.up) == 0 {
		return api.ErrNone
	}
	seq := c.up[0]
	c.up = c.up[1:]
	if seq == 0 {
		m.comes(c)
	} else if !slices.ContainsFunc(m.entries, func(e api.Entry) bool { return e.Client == client && e.Seq == seq }) {
		m.take(client, seq)
	}
	return nil
}

func (m *model) comes(c *modelClient) {
	c.told = true
	n := len(m.entries)
	if n-c.made > m.log {
		c.down = append(c.down, n)
		return
	}
	for i := c.made + 1; i <= n; i++ {
		c.down = append(c.down, i)
	}
}

func (m *model) take(client, seq int) {
	e := m.clients[client].edits[seq-1]
	done := m.applied(len(m.entries)).Apply(e) == nil
	m.entries = append(m.entries, api.Entry{Client: client, Seq: seq, Edit: e, Done: done})
	for i := range m.clients {
		if m.clients[i].told {
			m.clients[i].down = append(m.clients[i].down, len(m.entries))
		}
	}
}

func (m *model) downward(client int) error {
	c := &m.clients[client]
	if len(c.down) == 0 {
		return api.ErrNone
	}
	c.made, c.down = c.down[0], c.down[1:]
	return nil
}

// walk makes calls by chance (the same each time), and holds the party against the model behind each.
type walk struct {
	chance *rand.Rand
	p      *Party
	m      *model
	seen   map[string]int // what came to pass, lest the walk be a short one
}

// anyEdit: few nodes, so that edits get into each other's way, and few deletes, so that trees grow; now and then a wrong one.
func anyEdit(chance *rand.Rand) api.Edit {
	kinds := []int{api.Create, api.Create, api.Create, api.Create, api.Move, api.Move, api.Move, api.Move, api.Delete, api.Set, api.Set}
	e := api.Edit{Kind: kinds[chance.IntN(len(kinds))], Node: chance.IntN(8), Parent: chance.IntN(8), Key: chance.IntN(3), Prop: chance.IntN(4), Value: chance.IntN(9)}
	if chance.IntN(3) == 0 {
		e.Parent = 0
	}
	switch chance.IntN(30) {
	case 0:
		e.Kind = 9 - 10*chance.IntN(2)
	case 1:
		e.Key, e.Value = -1, -1
	}
	return e
}

func (w *walk) step(t *testing.T, drops bool) {
	t.Helper()
	client := w.chance.IntN(len(w.m.clients))
	var what string
	var e api.Edit
	var got, want error
	switch k := w.chance.IntN(100); {
	case k < 30:
		e = anyEdit(w.chance)
		what, got, want = "Edit", w.p.Edit(client, e), w.m.edit(client, e)
	case k < 38:
		what, got, want = "Join", w.p.Join(client), w.m.join(client)
	case k < 42 && drops:
		what, got, want = "Drop", w.p.Drop(client), w.m.drop(client)
	case k < 70:
		w.look(client)
		what, got, want = "Up", w.p.Up(client), w.m.upward(client)
	default:
		what, got, want = "Down", w.p.Down(client), w.m.downward(client)
	}
	w.seen[fmt.Sprint(what, " ", want)]++
	w.hold(t, fmt.Sprintf("%s(%d, %+v)", what, client, e), got, want, e)
}

// look: what is it that goes up now?
func (w *walk) look(client int) {
	c := w.m.clients[client]
	if len(c.up) == 0 {
		return
	}
	seq := c.up[0]
	switch behind := len(w.m.entries) - c.made; {
	case seq == 0 && behind == 0:
		w.seen["comes, with nothing behind"]++
	case seq == 0 && behind <= w.m.log:
		w.seen["comes, entries"]++
	case seq == 0 && w.m.lacks(client):
		w.seen["comes, snapshot with answers"]++
	case seq == 0:
		w.seen["comes, snapshot"]++
	case slices.ContainsFunc(w.m.entries, func(e api.Entry) bool { return e.Client == client && e.Seq == seq }):
		w.seen["edit again"]++
	}
}

func (m *model) lacks(client int) bool {
	return slices.ContainsFunc(m.entries[m.clients[client].made:], func(e api.Entry) bool { return e.Client == client })
}

func (w *walk) hold(t *testing.T, what string, got, want error, e api.Edit) {
	t.Helper()
	if want != nil {
		wantRefusal(t, what, got, want, e)
	} else if got != nil {
		t.Fatalf("%s: %v, want no error", what, got)
	}
	if got, want := servedBy(w.p).String(), w.m.served().String(); got != want {
		t.Fatalf("%s: %s\nwant\n%s", what, got, want)
	}
	for c := range w.m.clients {
		if got, want := factsOf(t, w.p, c).String(), w.m.facts(c).String(); got != want {
			t.Fatalf("%s: client %d has\n%s\nwant\n%s", what, c, got, want)
		}
	}
}

func walkAll(t *testing.T, drops bool) map[string]int {
	t.Helper()
	seen := map[string]int{}
	for clients := 1; clients <= api.MaxClients; clients++ {
		for log := 0; log <= api.MaxLog; log++ {
			w := walk{rand.New(rand.NewPCG(uint64(clients), uint64(log))), begun(t, clients, log),
				&model{log: log, clients: make([]modelClient, clients)}, seen}
			for range 300 {
				w.step(t, drops)
			}
		}
	}
	return seen
}

func wantSeen(t *testing.T, seen map[string]int, things ...string) {
	t.Helper()
	for _, thing := range things {
		if seen[thing] < 10 {
			t.Errorf("the walks saw %q %d times: %v", thing, seen[thing], seen)
		}
	}
}

// everyday: what a walk comes across, be there drops or not.
func everyday() []string {
	list := []string{"comes, with nothing behind", "comes, entries", "comes, snapshot", "Edit <nil>", "Join <nil>", "Up <nil>", "Down <nil>"}
	for what, reasons := range map[string][]error{"Edit": {api.ErrArg, api.ErrQueue}, "Join": {api.ErrJoined}, "Up": {api.ErrNone}, "Down": {api.ErrNone}} {
		for _, reason := range reasons {
			list = append(list, fmt.Sprint(what, " ", reason))
		}
	}
	return list
}

func TestP7ToP11Walks(t *testing.T) {
	wantSeen(t, walkAll(t, false), everyday()...)
}

func TestP8ToP10WalksWithDrops(t *testing.T) {
	wantSeen(t, walkAll(t, true), append(everyday(), "Drop <nil>", fmt.Sprint("Drop ", api.ErrJoined), "comes, snapshot with answers", "edit again")...)
}
