package party

import "orchard/api"

// refusal wraps a reason as it goes out: the functions further in answer it bare, so that each is wrapped once.
func refusal(e api.Edit, reason error) error {
	if reason == nil {
		return nil
	}
	return &api.Refusal{Edit: e, Err: reason}
}

func (p *Party) find(number int) (*client, error) {
	if number < 0 || number >= len(p.clients) {
		return nil, api.ErrArg
	}
	return &p.clients[number], nil
}

// let looks for the client first of all, whatever it is asked to do.
func (p *Party) let(number int, do func(*client) error) error {
	c, reason := p.find(number)
	if reason != nil {
		return reason
	}
	return do(c)
}

func (p *Party) edit(number int, e api.Edit) error {
	return p.let(number, func(c *client) error { return c.edit(e) })
}

func (p *Party) join(number int) error { return p.let(number, (*client).join) }

func (p *Party) drop(number int) error { return p.let(number, (*client).drop) }

func (p *Party) up(number int) error {
	return p.let(number, func(c *client) error { return p.bring(number, &c.line.up) })
}

func (p *Party) down(number int) error {
	return p.let(number, func(c *client) error { return p.bring(number, &c.line.down) })
}
