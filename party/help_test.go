package party

import (
	"errors"
	"fmt"
	"math"
	"slices"
	"testing"

	"orchard/api"
	"orchard/tree"
)

func create(node, parent, key int) api.Edit {
	return api.Edit{Kind: api.Create, Node: node, Parent: parent, Key: key}
}

func move(node, parent, key int) api.Edit {
	return api.Edit{Kind: api.Move, Node: node, Parent: parent, Key: key}
}

func remove(node int) api.Edit { return api.Edit{Kind: api.Delete, Node: node} }

func set(node, prop, value int) api.Edit {
	return api.Edit{Kind: api.Set, Node: node, Prop: prop, Value: value}
}

// begun: a party that is let begin.
func begun(t *testing.T, clients, log int) *Party {
	t.Helper()
	p, err := New(api.Config{Clients: clients, Log: log})
	if err != nil || p == nil {
		t.Fatalf("New(%d, %d) = %v, %v, want a party", clients, log, p, err)
	}
	return p
}

// do: calls without an error, each as a letter and a client: j joins, u up, d down; c cuts the line (Drop).
func do(t *testing.T, p *Party, calls ...string) {
	t.Helper()
	for _, call := range calls {
		client := int(call[1] - '0')
		var err error
		switch call[0] {
		case 'j':
			err = p.Join(client)
		case 'u':
			err = p.Up(client)
		case 'd':
			err = p.Down(client)
		case 'c':
			err = p.Drop(client)
		default:
			t.Fatalf("%s is no call", call)
		}
		if err != nil {
			t.Fatalf("%s: %v, want no error", call, err)
		}
	}
}

// edit: the edits are let in.
func edit(t *testing.T, p *Party, client int, edits ...api.Edit) {
	t.Helper()
	for _, e := range edits {
		if err := p.Edit(client, e); err != nil {
			t.Fatalf("Edit(%d, %+v): %v, want no error", client, e, err)
		}
	}
}

// wantRefusal: err is a refusal of e for this reason, and for no other.
func wantRefusal(t *testing.T, what string, err error, reason error, e api.Edit) {
	t.Helper()
	r, ok := err.(*api.Refusal)
	if !ok || r == nil {
		t.Fatalf("%s: the error is %T (%v), want a *api.Refusal of %v", what, err, err, reason)
	}
	if r.Err != reason || r.Edit != e {
		t.Fatalf("%s: refused %+v: %v, want %+v: %v", what, r.Edit, r.Err, e, reason)
	}
	var as *api.Refusal
	if !errors.Is(err, reason) || !errors.As(err, &as) || as != r {
		t.Fatalf("%s: errors.Is or errors.As does not find %v", what, reason)
	}
}

// refuse: the call is refused for this reason, and changes nothing that anybody is told of.
func refuse(t *testing.T, p *Party, what string, call func() error, reason error, e api.Edit) {
	t.Helper()
	before := all(t, p)
	wantRefusal(t, what, call(), reason, e)
	if after := all(t, p); after != before {
		t.Fatalf("%s: refused (%v), yet there is\n%s\ninstead of\n%s", what, reason, after, before)
	}
}

// idle: nothing is on its way between the server and these clients.
func idle(t *testing.T, p *Party, clients ...int) {
	t.Helper()
	for _, c := range clients {
		refuse(t, p, fmt.Sprintf("Up(%d)", c), func() error { return p.Up(c) }, api.ErrNone, api.Edit{})
		refuse(t, p, fmt.Sprintf("Down(%d)", c), func() error { return p.Down(c) }, api.ErrNone, api.Edit{})
	}
}

// text: all that can be told of a tree.
func text(x *tree.Tree) string {
	s := fmt.Sprint(x.Len(), ":")
	for n, deep := range x.All() {
		s += fmt.Sprint(" ", n, deep)
	}
	return s
}

// grown: a tree to which edits were done, or refused.
func grown(edits ...api.Edit) *tree.Tree {
	x := tree.New()
	for _, e := range edits {
		x.Apply(e)
	}
	return x
}

// facts: what a client has to be told by the calls of P11.
type facts struct {
	base    *tree.Tree
	entries int
	view    *tree.Tree
	pending []api.Edit
	answers []api.Answer
}

func (f facts) String() string {
	return fmt.Sprintf("base %s (%d), view %s, pending %v, answers %v", text(f.base), f.entries, text(f.view), f.pending, f.answers)
}

func factsOf(t *testing.T, p *Party, client int) facts {
	t.Helper()
	base, entries, errBase := p.Base(client)
	view, errView := p.View(client)
	pending, errPending := p.Pending(client)
	answers, errAnswers := p.Answers(client)
	if err := errors.Join(errBase, errView, errPending, errAnswers); err != nil || base == nil || view == nil {
		t.Fatalf("P11: of client %d: %v, %v, %v, want no error", client, base, view, err)
	}
	return facts{base, entries, view, pending, answers}
}

func wantFacts(t *testing.T, p *Party, client int, want facts) {
	t.Helper()
	if got := factsOf(t, p, client).String(); got != want.String() {
		t.Fatalf("P11: client %d has\n%s\nwant\n%s", client, got, want)
	}
}

// answered: answers from the first Seq on, each done (+) or not (-).
func answered(signs string) []api.Answer {
	var list []api.Answer
	for i, sign := range signs {
		list = append(list, api.Answer{Seq: i + 1, Done: sign == '+'})
	}
	return list
}

func entry(client, seq int, e api.Edit, done bool) api.Entry {
	return api.Entry{Client: client, Seq: seq, Edit: e, Done: done}
}

// served: what has to be told of the server.
type served struct {
	now     *tree.Tree
	entries int
	log     []api.Entry
}

func (s served) String() string {
	return fmt.Sprintf("the server: %s (%d), %v", text(s.now), s.entries, s.log)
}

func servedBy(p *Party) served {
	now, entries := p.Server()
	return served{now, entries, p.Log()}
}

func wantServed(t *testing.T, p *Party, want served) {
	t.Helper()
	if got := servedBy(p).String(); got != want.String() {
		t.Fatalf("P11: %s\nwant\n%s", got, want)
	}
}

// all: everything that is told of a party.
func all(t *testing.T, p *Party) string {
	t.Helper()
	s := servedBy(p).String()
	for c := range p.clients {
		s += "\n" + factsOf(t, p, c).String()
	}
	return s
}

// told lets all that is on its way to a client come, and gives of how many entries its base was made behind each.
func told(t *testing.T, p *Party, client int) []int {
	t.Helper()
	var list []int
	for p.Down(client) == nil {
		list = append(list, factsOf(t, p, client).entries)
	}
	return list
}

func wantTold(t *testing.T, p *Party, client int, want ...int) {
	t.Helper()
	if got := told(t, p, client); !slices.Equal(got, want) {
		t.Fatalf("P10: the base of client %d was made of %v entries, one behind the other, want %v", client, got, want)
	}
}

// risen lets all that a client has sent come to the server, and gives how many entries there were behind each message.
func risen(p *Party, client int) []int {
	var list []int
	for p.Up(client) == nil {
		list = append(list, servedBy(p).entries)
	}
	return list
}

func wantRisen(t *testing.T, p *Party, client int, want ...int) {
	t.Helper()
	if got := risen(p, client); !slices.Equal(got, want) {
		t.Fatalf("P9: behind the messages of client %d there were %v entries, want %v", client, got, want)
	}
}

// from: the numbers from one on to another; none, if that is less.
func from(first, last int) []int {
	var list []int
	for n := first; n <= last; n++ {
		list = append(list, n)
	}
	return list
}

// oddNumbers: far out of all bounds, either way.
func oddNumbers() []int {
	return []int{math.MinInt, math.MinInt + 1, math.MinInt32, -1001, -2, -1, 1 << 20, math.MaxInt32, math.MaxInt - 1, math.MaxInt}
}
