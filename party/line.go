package party

import (
	"slices"

	"orchard/api"
)

// line: what is between the server and a client. Without a join it is a zero one, on which nothing is on its way.
type line struct {
	joined   bool
	told     bool // of entries, by the server
	up, down []message
}

// message: something on its way, and what it does where it comes to; the number is that of the line's client.
type message interface {
	reach(p *Party, number int)
}

// bring takes the message off its way ahead of what it does, which may send others the same way.
func (p *Party) bring(number int, way *[]message) error {
	if len(*way) == 0 {
		return api.ErrNone
	}
	m := (*way)[0]
	*way = slices.Delete(*way, 0, 1)
	m.reach(p, number)
	return nil
}

// coming: that a client comes, whose base is made of so many entries.
type coming struct{ entries int }

func (m coming) reach(p *Party, number int) {
	l := &p.clients[number].line
	l.told = true
	l.down = append(l.down, p.server.behind(number, m.entries)...)
}

// request: an edit of a client, and its Seq.
type request struct {
	seq  int
	edit api.Edit
}

func (m request) reach(p *Party, number int) {
	if p.server.hasTaken(number, m.seq) {
		return
	}
	e := p.server.take(number, m)
	for i := range p.clients {
		p.clients[i].line.tell(e)
	}
}

func (l *line) tell(e api.Entry) {
	if l.told {
		l.down = append(l.down, news{e})
	}
}

// news: an entry, told to a client.
type news struct{ api.Entry }

func (m news) reach(p *Party, number int) {
	c := &p.clients[number]
	c.base.follow(m.Entry)
	if m.Client == number {
		c.get(api.Answer{Seq: m.Seq, Done: m.Done})
	}
}

// snapshot: what the server knew when it was sent, and the answers that its client lacked then, by their Seqs.
type snapshot struct {
	known
	answers []api.Answer
}

func (m snapshot) reach(p *Party, number int) {
	c := &p.clients[number]
	c.base = m.known
	for _, a := range m.answers {
		c.get(a)
	}
}
