package party

import (
	"cmp"
	"slices"

	"orchard/api"
)

// server: what it knows, the last entries, and what it has answered.
type server struct {
	now      known
	keeps    int // how many entries, at most
	log      []api.Entry
	answered map[mark]verdict
}

// mark: a client's edit.
type mark struct{ client, seq int }

// verdict: what became of an edit, and how many entries there were with it.
type verdict struct {
	entries int
	done    bool
}

func newServer(keeps int) server {
	return server{now: nothing(), keeps: keeps, answered: map[mark]verdict{}}
}

func (s *server) hasTaken(number, seq int) bool {
	_, ok := s.answered[mark{number, seq}]
	return ok
}

func (s *server) take(number int, r request) api.Entry {
	done := s.now.Apply(r.edit) == nil
	s.now.entries++
	e := api.Entry{Client: number, Seq: r.seq, Edit: r.edit, Done: done}
	s.log = append(s.log, e)
	if len(s.log) > s.keeps {
		s.log = slices.Delete(s.log, 0, 1)
	}
	s.answered[mark{number, r.seq}] = verdict{entries: s.now.entries, done: done}
	s.forget(number, r.seq-api.MaxPending)
	return e
}

// forget is for an edit whose answer the client has got: else MaxPending edits had been pending when it made the one
// that was taken now. So nobody sends it again, nor lacks its answer.
func (s *server) forget(number, seq int) { delete(s.answered, mark{number, seq}) }

// behind gives what a client whose base is made of so many entries has to be sent, to know what the server knows.
func (s *server) behind(number, entries int) []message {
	missing := s.now.entries - entries
	if missing > len(s.log) {
		return []message{snapshot{known: s.now.copied(), answers: s.lacking(number, entries)}}
	}
	var list []message
	for _, e := range s.log[len(s.log)-missing:] {
		list = append(list, news{e})
	}
	return list
}

// lacking gives the answers of entries that are not in the client's base: those that are, it has got with them.
func (s *server) lacking(number, entries int) []api.Answer {
	var list []api.Answer
	for m, v := range s.answered {
		if m.client == number && v.entries > entries {
			list = append(list, api.Answer{Seq: m.seq, Done: v.done})
		}
	}
	slices.SortFunc(list, func(a, b api.Answer) int { return cmp.Compare(a.Seq, b.Seq) })
	return list
}
