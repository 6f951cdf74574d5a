package auth

import (
	"halyard/api"
	"halyard/chap"
	"halyard/md5"
	"halyard/octet"
	"halyard/pap"
)

// Server is who authenticates the peer.
type Server struct {
	machine
	again int
	value string     // the open challenge's; empty if none is open
	peer  string     // the name with which it became done
	good  api.Packet // the last one that was evaluated as good
}

// NewServer returns an idle server of this name.
func NewServer(c api.AuthConf, name string) (*Server, api.Errno) {
	m, e := newMachine(c, name)
	if e != api.OK {
		return nil, e
	}
	return &Server{machine: m, again: c.Again}, api.OK
}

// Start begins to authenticate; the draw is for a challenge.
func (s *Server) Start(draw uint32) api.AuthOut {
	if s == nil {
		return send()
	}
	return s.act(deeds{api.AuthIdle: s.begin}, input{draw: draw})
}

// Claims returns the name in a packet, if that is one to be evaluated.
func (s *Server) Claims(p api.Packet) (name string, is bool) {
	switch {
	case s == nil:
		return "", false
	case s.kind == api.AuthPap:
		return s.claimsRequest(p)
	}
	return s.claimsResponse(p)
}

// Packet receives a packet, with the secret of the name in it, if that is known.
func (s *Server) Packet(p api.Packet, secret string, known bool) api.AuthOut {
	if s == nil {
		return send()
	}
	all := deeds{api.AuthBusy: s.evaluate, api.AuthDone: s.reevaluate}
	return s.act(all, input{p: p, secret: secret, known: known})
}

// Tick performs a tick; the draw is for a challenge.
func (s *Server) Tick(draw uint32) api.AuthOut {
	if s == nil {
		return send()
	}
	return s.tick(s.expiries(), input{draw: draw})
}

// State returns the state.
func (s *Server) State() uint8 {
	if s == nil {
		return api.AuthIdle
	}
	return s.state
}

// Name returns the name with which the server is done, or was.
func (s *Server) Name() string {
	if s == nil {
		return ""
	}
	return s.peer
}

// Copy returns an equal server that goes on alone.
func (s *Server) Copy() *Server {
	if s == nil {
		return nil
	}
	c := *s
	return &c
}

// claimsRequest is Claims with PAP.
func (s *Server) claimsRequest(p api.Packet) (name string, is bool) {
	if s.state != api.AuthBusy {
		return "", false
	}
	name, _, e := pap.Asked(p)
	return name, e == api.OK
}

// claimsResponse is Claims with CHAP. The name is asked for ahead of the value's
// check, since it tells whose secret that needs.
func (s *Server) claimsResponse(p api.Packet) (name string, is bool) {
	if s.value == "" || p.Code != api.ChapResponse || p.Id != s.id {
		return "", false
	}
	_, name, e := chap.Read(p)
	return name, e == api.OK
}

// begin makes an idle server busy.
func (s *Server) begin(in input) api.AuthOut {
	s.state = api.AuthBusy
	if s.kind == api.AuthChap {
		return s.ask(in)
	}
	s.timer = s.wait * s.tries
	return send()
}

// expiries has what is done when the timer expires.
func (s *Server) expiries() deeds {
	switch {
	case s.kind == api.AuthPap:
		return deeds{api.AuthBusy: s.giveUp}
	case s.again == 0:
		return deeds{api.AuthBusy: s.repeat}
	}
	return deeds{api.AuthBusy: s.repeat, api.AuthDone: s.recheck}
}

// giveUp ends the wait for a request that is well.
func (s *Server) giveUp(input) api.AuthOut {
	return s.fail()
}

// repeat challenges again, unless it did as often as it may.
func (s *Server) repeat(input) api.AuthOut {
	if s.exhausted() {
		return s.lose()
	}
	return s.challenge()
}

// recheck challenges a peer that was well before, or challenges it again.
func (s *Server) recheck(in input) api.AuthOut {
	if s.value == "" {
		return s.ask(in)
	}
	return s.repeat(in)
}

// ask challenges with the value of a draw.
func (s *Server) ask(in input) api.AuthOut {
	s.value = md5.Sum(octet.Put32(in.draw))
	s.tried = 0
	return s.challenge()
}

// challenge sends the open challenge.
func (s *Server) challenge() api.AuthOut {
	s.number()
	// This can't fail: a digest is a value, and the name is not too long.
	p, _ := chap.Challenge(s.id, s.value, s.name)
	return send(p)
}

// evaluate is what a busy server does with a packet.
func (s *Server) evaluate(in input) api.AuthOut {
	name, is := s.Claims(in.p)
	if !is {
		return send()
	}
	if !s.isGood(in, name) {
		return s.refuse(in.p)
	}
	s.state = api.AuthDone
	s.peer = name
	out := s.accept(in.p)
	out.Done = true
	out.Name = name
	return out
}

// reevaluate is what a server does with a packet once it is done. Where the
// answer was lost, the peer sends the same again, and is answered the same.
func (s *Server) reevaluate(in input) api.AuthOut {
	name, is := s.Claims(in.p)
	switch {
	case is && name == s.peer && s.isGood(in, name):
		return s.accept(in.p)
	case is:
		return s.refuse(in.p)
	case in.p == s.good:
		return send(s.answer(in.p.Id, true))
	}
	return send()
}

// isGood reports whether a packet that is claimed proves its name.
func (s *Server) isGood(in input, name string) bool {
	switch {
	case !in.known:
		return false
	case s.kind == api.AuthPap:
		return pap.Check(in.p, name, in.secret)
	}
	return chap.Check(in.p, s.id, in.secret, s.value)
}

// accept answers a packet that is good.
func (s *Server) accept(p api.Packet) api.AuthOut {
	s.value = ""
	s.timer = s.again
	s.good = p
	return send(s.answer(p.Id, true))
}

// refuse answers a packet that is not good. With PAP the peer may try again.
func (s *Server) refuse(p api.Packet) api.AuthOut {
	no := s.answer(p.Id, false)
	if s.kind == api.AuthChap {
		return s.lose(no)
	}
	s.tried++
	if s.exhausted() {
		return s.fail(no)
	}
	return send(no)
}

// lose ends a server with CHAP, with these packets.
func (s *Server) lose(l ...api.Packet) api.AuthOut {
	s.value = ""
	return s.fail(l...)
}

// answer returns the answer to the packet of this identifier.
func (s *Server) answer(id uint8, well bool) api.Packet {
	// Neither can fail: there is no message that might be too long.
	if s.kind == api.AuthPap {
		p, _ := pap.Answer(id, well, "")
		return p
	}
	p, _ := chap.Answer(id, well, "")
	return p
}
