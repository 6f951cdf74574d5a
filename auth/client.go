package auth

import (
	"halyard/api"
	"halyard/chap"
	"halyard/pap"
)

// Client is who is authenticated by the peer.
type Client struct {
	machine
	secret    string
	responded bool // with CHAP, whether it ever did: a challenge's identifier may be any
}

// NewClient returns an idle client of this name and this secret.
func NewClient(c api.AuthConf, name, secret string) (*Client, api.Errno) {
	m, e := newMachine(c, name, secret)
	if e != api.OK {
		return nil, e
	}
	return &Client{machine: m, secret: secret}, api.OK
}

// Start begins to be authenticated.
func (c *Client) Start() api.AuthOut {
	if c == nil {
		return send()
	}
	return c.act(deeds{api.AuthIdle: c.begin}, input{})
}

// Packet receives a packet.
func (c *Client) Packet(p api.Packet) api.AuthOut {
	if c == nil {
		return send()
	}
	return c.act(c.receipts(), input{p: p})
}

// Tick performs a tick.
func (c *Client) Tick() api.AuthOut {
	if c == nil {
		return send()
	}
	return c.tick(c.expiries(), input{})
}

// State returns the state.
func (c *Client) State() uint8 {
	if c == nil {
		return api.AuthIdle
	}
	return c.state
}

// Copy returns an equal client that goes on alone.
func (c *Client) Copy() *Client {
	if c == nil {
		return nil
	}
	d := *c
	return &d
}

// begin makes an idle client busy. With CHAP the peer is the one that begins.
func (c *Client) begin(input) api.AuthOut {
	c.state = api.AuthBusy
	if c.kind == api.AuthChap {
		return send()
	}
	return c.request()
}

// receipts has what is done with a packet. With CHAP the peer may challenge
// again once the client is done.
func (c *Client) receipts() deeds {
	if c.kind == api.AuthPap {
		return deeds{api.AuthBusy: c.getPap}
	}
	return deeds{api.AuthBusy: c.getChap, api.AuthDone: c.getChap}
}

// expiries has what is done when the timer expires.
func (c *Client) expiries() deeds {
	if c.kind == api.AuthPap {
		return deeds{api.AuthBusy: c.repeat}
	}
	return deeds{}
}

// repeat requests again, unless it did as often as it may.
func (c *Client) repeat(input) api.AuthOut {
	if c.exhausted() {
		return c.fail()
	}
	return c.request()
}

// request sends a request.
func (c *Client) request() api.AuthOut {
	c.number()
	// This can't fail: neither text is too long.
	p, _ := pap.Request(c.id, c.name, c.secret)
	return send(p)
}

// getPap is what a busy client does with a packet of PAP.
func (c *Client) getPap(in input) api.AuthOut {
	well, _, e := pap.Answered(in.p)
	if e != api.OK || in.p.Id != c.id {
		return send()
	}
	return c.finish(well)
}

// getChap is what a client does with a packet of CHAP.
func (c *Client) getChap(in input) api.AuthOut {
	if in.p.Code == api.ChapChallenge {
		return c.respond(in.p)
	}
	well, _, e := chap.Answered(in.p)
	if e != api.OK || !c.responded || in.p.Id != c.id {
		return send()
	}
	return c.finish(well)
}

// respond answers a challenge.
func (c *Client) respond(p api.Packet) api.AuthOut {
	value, _, e := chap.Read(p)
	if e != api.OK {
		return send()
	}
	c.id = p.Id
	c.responded = true
	// This can't fail: the value was read, and the name is not too long.
	r, _ := chap.Response(p.Id, c.secret, value, c.name)
	return send(r)
}

// finish takes the peer's answer. That it is well again is no news.
func (c *Client) finish(well bool) api.AuthOut {
	if !well {
		return c.fail()
	}
	news := c.state == api.AuthBusy
	c.state = api.AuthDone
	return api.AuthOut{Done: news}
}
