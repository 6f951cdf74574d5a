package auth

import (
	"fmt"
	"math/rand"
	"slices"
	"strings"
	"testing"

	"halyard/api"
)

// What a step of a server is.
const (
	starts = iota
	ticks
	gets
)

// step is one of these, with a draw, or a packet with a secret, and whether that is known.
type step struct {
	what   int
	draw   uint32
	p      api.Packet
	secret string
	known  bool
}

func (s step) String() string {
	return fmt.Sprintf("(%d %d %q %q %v)", s.what, s.draw, s.p, s.secret, s.known)
}

// start, tick and get are steps.
func start(draw uint32) step { return step{what: starts, draw: draw} }
func tick(draw uint32) step  { return step{what: ticks, draw: draw} }
func get(p api.Packet, secret string, known bool) step {
	return step{what: gets, p: p, secret: secret, known: known}
}

// does is the step done to a server.
func (x step) does(s *Server) api.AuthOut {
	switch x.what {
	case starts:
		return s.Start(x.draw)
	case ticks:
		return s.Tick(x.draw)
	}
	return s.Packet(x.p, x.secret, x.known)
}

// line is a step, what must come of it, and what the server must be behind it.
type line struct {
	s     step
	want  api.AuthOut
	state uint8
	name  string
}

// follow does a row of steps to a server, and holds it against what is written.
func follow(t *testing.T, s *Server, row ...line) {
	t.Helper()
	for i, x := range row {
		if out := x.s.does(s); !same(out, x.want) {
			t.Fatalf("%d: of %v comes %s, not %s", i, x.s, told(out), told(x.want))
		}
		if s.State() != x.state || s.Name() != x.name {
			t.Fatalf("%d: behind %v it is %d, %q", i, x.s, s.State(), s.Name())
		}
	}
}

// serverModel is a server, word by word as the chapter defines it; two of the same are equal.
type serverModel struct {
	conf   api.AuthConf
	own    string
	state  uint8
	id     int // of the last challenge, not yet cut to a byte; 0 before the first one
	open   bool
	value  string
	times  int // how often a challenge with that value was sent
	timer  int
	naks   int
	name   string
	isGood bool // whether any packet was evaluated as good
	good   api.Packet
}

// claims is the chapter's words.
func (m *serverModel) claims(p api.Packet) (name string, is bool) {
	if m.conf.Kind == 1 {
		if m.state == 1 {
			name, _, is = isAsked(p)
		}
		return name, is
	}
	if m.open && p.Code == 2 && p.Id == uint8(m.id) {
		_, name, is = isRead(p)
	}
	return name, is
}

// challenges is the chapter's words: with a value that is sent so many times then.
func (m *serverModel) challenges(value string, times int) api.AuthOut {
	m.id++
	m.open, m.value, m.times, m.timer = true, value, times, m.conf.Wait
	return sends(challenge(uint8(m.id), value, m.own))
}

// fails is the chapter's words.
func (m *serverModel) fails(l ...api.Packet) api.AuthOut {
	m.state = 3
	m.close()
	return fails(l...)
}

// close is that no challenge is open any more: what it was is forgotten.
func (m *serverModel) close() { m.open, m.value, m.times = false, "", 0 }

// well and wrong are the answers to a packet.
func (m *serverModel) well(p api.Packet) api.Packet {
	if m.conf.Kind == 1 {
		return ack(p.Id)
	}
	return success(p.Id)
}
func (m *serverModel) wrong(p api.Packet) api.Packet {
	if m.conf.Kind == 1 {
		return nak(p.Id)
	}
	return failure(p.Id)
}

// checks is whether a packet is one of this secret, by layers 18 and 19.
func (m *serverModel) checks(p api.Packet, secret string) bool {
	if m.conf.Kind == 1 {
		_, has, is := isAsked(p)
		return is && has == secret
	}
	has, _, is := isRead(p)
	return is && p.Code == 2 && p.Id == uint8(m.id) && has == digest(text(byte(m.id))+secret+m.value)
}

// packet is the chapter's words.
func (m *serverModel) packet(p api.Packet, secret string, known bool) api.AuthOut {
	name, is := m.claims(p)
	if !is {
		if m.state == 2 && m.isGood && p == m.good {
			return sends(m.well(p))
		}
		return nothing()
	}
	if known && m.checks(p, secret) && (m.state != 2 || name == m.name) {
		m.isGood, m.good = true, p
		m.close()
		m.timer = m.conf.Again
		if m.state == 2 {
			return sends(m.well(p))
		}
		m.state, m.name = 2, name
		return as(isDone(m.well(p)), name)
	}
	m.naks++
	if m.conf.Kind == 1 && m.naks != m.conf.Tries {
		return sends(m.wrong(p))
	}
	return m.fails(m.wrong(p))
}

// tick is the chapter's words.
func (m *serverModel) tick(draw uint32) api.AuthOut {
	if m.state != 1 && !(m.state == 2 && m.conf.Kind == 2 && m.conf.Again != 0) {
		return nothing()
	}
	m.timer--
	switch {
	case m.timer != 0:
		return nothing()
	case m.open && m.times < m.conf.Tries:
		return m.challenges(m.value, m.times+1)
	case m.open, m.conf.Kind == 1:
		return m.fails()
	case m.state == 2:
		return m.challenges(digest(be(draw)), 1)
	}
	return nothing()
}

// start is the chapter's words.
func (m *serverModel) start(draw uint32) api.AuthOut {
	if m.state != 0 {
		return nothing()
	}
	m.state = 1
	if m.conf.Kind == 2 {
		return m.challenges(digest(be(draw)), 1)
	}
	m.timer = m.conf.Wait * m.conf.Tries
	return nothing()
}

// does is the step done to a model.
func (x step) doesModel(m *serverModel) api.AuthOut {
	switch x.what {
	case starts:
		return m.start(x.draw)
	case ticks:
		return m.tick(x.draw)
	}
	return m.packet(x.p, x.secret, x.known)
}

// requests are requests, and what is nearly one.
func requests() []api.Packet {
	r := request(1, "u", "pw")
	return []api.Packet{
		r, request(2, "u", "pw"), request(0, "v", "pw"), request(1, "u", "no"), request(1, "", ""), request(255, "u", ""),
		pkt(1, 1, cut(r.Data)), pkt(1, 1, r.Data+"x"), pkt(1, 1, ""), pkt(1, 1, "\x01u"), pkt(0, 1, r.Data), pkt(2, 1, r.Data), pkt(3, 1, r.Data), pkt(4, 1, r.Data), ack(1),
	}
}

// responses are responses to a challenge, and what is nearly one.
func responses(id uint8, value string) []api.Packet {
	r := response(id, "pw", value, "u")
	proof, long := r.Data[1:17], strings.Repeat("n", 255)
	return []api.Packet{
		r, response(id-1, "pw", value, "u"), response(id+1, "pw", value, "u"), response(id, "pw", value, "v"), response(id, "pw", value, ""), response(id, "pw", value, long),
		response(id, "no", value, "u"), response(id, "", value, "u"), response(id, "pw", "", "u"), response(id, "pw", digest(be(7)), "u"),
		// What is right for another identifier, under this one, and the other way about.
		pkt(2, id, response(id-1, "pw", value, "u").Data), pkt(2, id+1, r.Data), pkt(2, id-1, r.Data),
		// Values of other lengths, and what can't be read.
		pkt(2, id, encoding(cut(proof))+"u"), pkt(2, id, encoding(proof+"u")), pkt(2, id, encoding("x")+"u"),
		pkt(2, id, ""), pkt(2, id, "\x00u"), pkt(2, id, "\x10"+cut(proof)), pkt(2, id, r.Data[:17]+long+"n"),
		// Other codes.
		pkt(0, id, r.Data), pkt(1, id, r.Data), pkt(3, id, r.Data), pkt(4, id, r.Data), success(id),
	}
}

// packets are packets that matter to a server as it is now.
func (m *serverModel) packets() []api.Packet {
	var l []api.Packet
	if m.conf.Kind == 1 {
		l = append(requests(), response(0, "pw", "", "u"), response(1, "pw", digest(be(6)), "u"))
	} else {
		value := m.value
		if !m.open {
			value = digest(be(6))
		}
		l = append(responses(uint8(m.id), value), request(uint8(m.id), "u", "pw"))
	}
	if m.isGood {
		g := m.good
		l = append(l, g, pkt(g.Code, g.Id+1, g.Data), pkt(g.Code+1, g.Id, g.Data), pkt(g.Code, g.Id, g.Data+"x"), pkt(g.Code, g.Id, cut(g.Data)))
	}
	return l
}

// steps are steps of every kind that matter to a server as it is now.
func (m *serverModel) steps() []step {
	l := []step{start(5), start(6), tick(6), tick(7)}
	for _, p := range m.packets() {
		l = append(l, get(p, "pw", true), get(p, "pw", false), get(p, "no", true), get(p, "", true))
	}
	return l
}

// checkServer holds what a server tells of itself against the model, twice, so that asking that changes something is seen.
func checkServer(s *Server, m *serverModel) string {
	for range 2 {
		if s.State() != m.state || s.Name() != m.name {
			return fmt.Sprintf("it is %d, %q, not %d, %q", s.State(), s.Name(), m.state, m.name)
		}
		for _, p := range m.packets() {
			wantName, want := m.claims(p)
			if name, is := s.Claims(p); name != wantName || is != want {
				return fmt.Sprintf("Claims(%q) = %.20q, %v, not %.20q, %v", p, name, is, wantName, want)
			}
		}
	}
	return ""
}

// bothServers does a step to both, and holds them against each other.
func bothServers(s *Server, m *serverModel, x step) string {
	out, want := x.does(s), x.doesModel(m)
	if !same(out, want) {
		return fmt.Sprintf("of %v comes %s, not %s", x, told(out), told(want))
	}
	return checkServer(s, m)
}

// TestP20_2Servers: every step from every server that any row of steps can make of small configurations, until the fifth challenge; each server goes on by copies.
func TestP20_2Servers(t *testing.T) {
	type pair struct {
		s *Server
		m serverModel
	}
	for _, c := range []api.AuthConf{
		papConf(1, 1, 0), papConf(2, 1, 1), papConf(3, 2, 0), papConf(1, 3, 5),
		chapConf(1, 1, 0), chapConf(1, 1, 1), chapConf(2, 1, 0), chapConf(2, 2, 1), chapConf(3, 1, 2), chapConf(1, 3, 3), chapConf(2, 3, 1),
	} {
		first := serverModel{conf: c, own: "me"}
		seen := map[serverModel]bool{first: true}
		work := []pair{{server(t, c, "me"), first}}
		for len(work) > 0 {
			at := work[len(work)-1]
			work = work[:len(work)-1]
			for _, x := range at.m.steps() {
				s, m := at.s.Copy(), at.m
				if wrong := bothServers(s, &m, x); wrong != "" {
					t.Fatalf("%v: at %v: %s", c, at.m, wrong)
				}
				if !seen[m] && m.id <= 5 {
					seen[m] = true
					work = append(work, pair{s, m})
				}
			}
			if wrong := checkServer(at.s, &at.m); wrong != "" {
				t.Fatalf("%v: behind its copies, %v: %s", c, at.m, wrong)
			}
		}
		if len(seen) < 3+c.Tries*c.Wait {
			t.Errorf("%v: only %d were seen", c, len(seen))
		}
	}
}

// walk is one step of a random row: of what would end a server, little is done.
func (m *serverModel) walk(r *rand.Rand) step {
	switch n := r.Intn(2000); {
	case n == 0:
		l := m.steps()
		return l[r.Intn(len(l))]
	case n == 1:
		return start(r.Uint32())
	case n < 700 && m.open:
		return get(response(uint8(m.id), "pw", m.value, "u"), "pw", true)
	case n < 900 && m.open:
		return get(response(uint8(m.id-1), "pw", m.value, "u"), "pw", true)
	case n < 1000 && m.isGood:
		return get(m.good, "pw", false)
	}
	return tick(r.Uint32())
}

// TestP20_2ServerWalks: long random rows, as the chapter's words have it.
func TestP20_2ServerWalks(t *testing.T) {
	wrapped, ends := 0, [4]int{}
	for i := range 150 {
		r := rand.New(rand.NewSource(int64(i)))
		c := chapConf(1+r.Intn(20), 1+r.Intn(4), r.Intn(4))
		s, m := server(t, c, "me"), serverModel{conf: c, own: "me"}
		for n := range 2000 {
			x := m.walk(r)
			if n == 0 {
				x = start(r.Uint32())
			}
			if wrong := bothServers(s, &m, x); wrong != "" {
				t.Fatalf("row %d: %v: at %v: %s", i, c, m, wrong)
			}
			if m.state == 3 {
				break
			}
		}
		if m.id > 256 {
			wrapped++
		}
		ends[m.state]++
	}
	if wrapped < 20 || ends[2] < 20 || ends[3] < 20 {
		t.Errorf("%d rows were long, they ended at %v", wrapped, ends)
	}
}

// TestP20_2PapKnown: the chapter's example, and what follows it.
func TestP20_2PapKnown(t *testing.T) {
	wrong, right := request(9, "u", "no"), request(3, "u", "pw")
	s := server(t, papConf(2, 5, 1), "me")
	follow(t, s,
		line{get(right, "pw", true), nothing(), 0, ""},
		line{start(1), nothing(), 1, ""},
		line{start(1), nothing(), 1, ""},
		line{get(wrong, "pw", true), sends(pkt(3, 9, "\x00")), 1, ""},
	)
	follow(t, s.Copy(),
		line{get(wrong, "pw", true), fails(nak(9)), 3, ""},
		line{get(right, "pw", true), nothing(), 3, ""},
		line{start(1), nothing(), 3, ""},
		line{tick(1), nothing(), 3, ""},
	)
	follow(t, s.Copy(), line{get(right, "pw", false), fails(nak(3)), 3, ""})
	follow(t, s,
		line{get(right, "pw", true), as(isDone(pkt(2, 3, "\x00")), "u"), 2, "u"},
		line{get(right, "no", false), sends(ack(3)), 2, "u"}, // the same answer, whatever is known by now
		line{get(right, "no", false), sends(ack(3)), 2, "u"},
		line{get(request(4, "u", "pw"), "pw", true), nothing(), 2, "u"},
		line{get(request(3, "v", "pw"), "pw", true), nothing(), 2, "u"},
		line{get(wrong, "no", true), nothing(), 2, "u"},
		line{start(1), nothing(), 2, "u"},
	)
	for range 100 { // it is never asked again
		follow(t, s, line{tick(1), nothing(), 2, "u"})
	}
}

// TestP20_2PapTime: Wait times Tries ticks, also the greatest, which requests that are refused do not lengthen.
func TestP20_2PapTime(t *testing.T) {
	for _, c := range []api.AuthConf{papConf(1, 1, 0), papConf(1, 1000, 0), papConf(20, 1, 7), papConf(3, 4, 100000), papConf(20, 1000, 0)} {
		s := server(t, c, "me")
		s.Start(0)
		for n := 1; n < c.Tries*c.Wait; n++ {
			if out := s.Tick(uint32(n)); !same(out, nothing()) || s.State() != 1 {
				t.Fatalf("%v: of tick %d comes %s", c, n, told(out))
			}
			if n < c.Tries {
				follow(t, s, line{get(request(1, "u", "no"), "pw", true), sends(nak(1)), 1, ""})
			}
		}
		follow(t, s, line{tick(0), fails(), 3, ""}, line{tick(0), nothing(), 3, ""})
	}
}

// TestP20_2PapTries: the answers that were not well are counted, nothing else is.
func TestP20_2PapTries(t *testing.T) {
	for tries := 1; tries <= 20; tries++ {
		s := server(t, papConf(tries, 1000, 0), "me")
		s.Start(0)
		for n := 1; n < tries; n++ {
			follow(t, s,
				line{get(request(uint8(n), "u", "no"), "pw", true), sends(nak(uint8(n))), 1, ""},
				line{get(ack(uint8(n)), "pw", true), nothing(), 1, ""},
				line{get(pkt(1, 1, "\x01u"), "pw", true), nothing(), 1, ""},
				line{tick(1), nothing(), 1, ""},
			)
			follow(t, s.Copy(), line{get(request(7, "", ""), "", true), as(isDone(ack(7)), ""), 2, ""})
		}
		follow(t, s, line{get(request(200, "u", "no"), "pw", true), fails(nak(200)), 3, ""})
	}
}

// TestP20_2ChapKnown: the chapter's example, with digests that are written out, and what follows it.
func TestP20_2ChapKnown(t *testing.T) {
	const (
		of5 = "\xbb\x3e\x7a\xcf\x9d\x84\x74\xb5\x67\x2b\x2a\xa6\xf2\x7b\xf6\x44" // of 0 0 0 5
		of4 = "\x08\xd6\xc0\x5a\x21\x51\x2a\x79\xa1\xdf\xeb\x9d\x2a\x8f\x26\x2f" // of 1 2 3 4
	)
	s := server(t, chapConf(2, 3, 0), "me")
	follow(t, s,
		line{start(5), sends(pkt(1, 1, "\x10"+of5+"me")), 1, ""},
		line{start(6), nothing(), 1, ""},
		line{tick(6), nothing(), 1, ""},
		line{tick(6), nothing(), 1, ""},
	)
	follow(t, s.Copy(), line{get(response(1, "pw", of5, "u"), "pw", true), as(isDone(pkt(3, 1, "")), "u"), 2, "u"})
	follow(t, s,
		line{tick(6), sends(pkt(1, 2, "\x10"+of5+"me")), 1, ""},
		line{get(response(1, "pw", of5, "u"), "pw", true), nothing(), 1, ""},
		line{tick(6), nothing(), 1, ""},
		line{tick(6), nothing(), 1, ""},
	)
	follow(t, s.Copy(),
		line{tick(6), fails(), 3, ""},
		line{get(response(2, "pw", of5, "u"), "pw", true), nothing(), 3, ""},
		line{tick(6), nothing(), 3, ""},
		line{start(6), nothing(), 3, ""},
	)
	follow(t, s.Copy(), line{get(response(2, "pw", of5, "u"), "pw", false), fails(pkt(4, 2, "")), 3, ""})
	follow(t, s.Copy(), line{get(response(2, "pw", of5, "u"), "no", true), fails(failure(2)), 3, ""})
	follow(t, s, line{get(response(2, "pw", of5, "u"), "pw", true), as(isDone(success(2)), "u"), 2, "u"})
	for range 100 { // Again is 0: it is never asked again
		follow(t, s, line{tick(7), nothing(), 2, "u"})
	}
	follow(t, s,
		line{get(response(2, "pw", of5, "u"), "", false), sends(success(2)), 2, "u"},
		line{get(response(2, "pw", of5, "v"), "pw", true), nothing(), 2, "u"},
	)
	follow(t, server(t, chapConf(1, 1, 0), ""),
		line{start(0x01020304), sends(pkt(1, 1, "\x10"+of4)), 1, ""},
		line{tick(0), fails(), 3, ""},
	)
}

// TestP20_2ChapAgain: a server that is done challenges behind Again ticks, with the value of that tick's draw, as often as at first, under identifiers that go on; it stays done with its name, and fails with another one.
func TestP20_2ChapAgain(t *testing.T) {
	v, w := digest(be(5)), digest(be(9))
	first := response(1, "pw", v, "u")
	s := server(t, chapConf(2, 3, 2), "me")
	follow(t, s,
		line{start(5), sends(challenge(1, v, "me")), 1, ""},
		line{get(first, "pw", true), as(isDone(success(1)), "u"), 2, "u"},
		line{tick(8), nothing(), 2, "u"},
		line{tick(9), sends(challenge(2, w, "me")), 2, "u"},
		line{get(first, "x", false), sends(success(1)), 2, "u"}, // not claimed, and still the last good one
		line{tick(8), nothing(), 2, "u"},
		line{tick(8), nothing(), 2, "u"},
		line{tick(8), sends(challenge(3, w, "me")), 2, "u"},
		line{get(response(2, "pw", w, "u"), "pw", true), nothing(), 2, "u"},
		line{tick(8), nothing(), 2, "u"},
	)
	again := response(3, "pw", w, "u")
	follow(t, s.Copy(), line{tick(8), nothing(), 2, "u"}, line{tick(8), fails(), 3, "u"}, line{get(again, "pw", true), nothing(), 3, "u"}, line{get(first, "pw", true), nothing(), 3, "u"})
	follow(t, s.Copy(), line{get(response(3, "pw", w, "v"), "pw", true), fails(failure(3)), 3, "u"})
	follow(t, s.Copy(), line{get(response(3, "pw", w, ""), "pw", true), fails(failure(3)), 3, "u"})
	follow(t, s.Copy(), line{get(again, "pw", false), fails(failure(3)), 3, "u"}, line{get(again, "pw", true), nothing(), 3, "u"})
	follow(t, s,
		line{get(again, "other", true), fails(failure(3)), 3, "u"},
	)
	s = server(t, chapConf(2, 3, 2), "me")
	follow(t, s,
		line{start(5), sends(challenge(1, v, "me")), 1, ""},
		line{get(first, "pw", true), as(isDone(success(1)), "u"), 2, "u"},
		line{tick(8), nothing(), 2, "u"},
		line{tick(9), sends(challenge(2, w, "me")), 2, "u"},
		line{tick(8), nothing(), 2, "u"},
		line{get(response(2, "new", w, "u"), "new", true), sends(success(2)), 2, "u"}, // its timer is Again, whatever was left
		line{get(first, "pw", true), nothing(), 2, "u"},
		line{get(response(2, "new", w, "u"), "new", false), sends(success(2)), 2, "u"},
		line{tick(8), nothing(), 2, "u"},
		line{tick(5), sends(challenge(3, v, "me")), 2, "u"},
	)
}

// TestP20_2ChapSends: a value is sent Tries times, each Wait ticks behind the other, when it is new and when it is asked again; the greatest numbers too.
func TestP20_2ChapSends(t *testing.T) {
	for _, c := range []api.AuthConf{chapConf(1, 1, 1), chapConf(20, 1, 3), chapConf(3, 1000, 1), chapConf(20, 7, 100000)} {
		s := server(t, c, "me")
		silent := func(id int, value string, name string, state uint8) {
			t.Helper()
			for n := 1; n <= c.Tries; n++ {
				for range c.Wait - 1 {
					follow(t, s, line{tick(1), nothing(), state, name})
				}
				if n < c.Tries {
					follow(t, s, line{tick(1), sends(challenge(uint8(id+n), value, "me")), state, name})
				}
			}
		}
		v, w := digest(be(70)), digest(be(80))
		follow(t, s, line{start(70), sends(challenge(1, v, "me")), 1, ""})
		silent(1, v, "", 1)
		follow(t, s.Copy(), line{tick(1), fails(), 3, ""})
		last := response(uint8(c.Tries), "pw", v, "u")
		follow(t, s, line{get(last, "pw", true), as(isDone(success(last.Id)), "u"), 2, "u"})
		for range c.Again - 1 {
			follow(t, s, line{tick(1), nothing(), 2, "u"})
		}
		follow(t, s, line{tick(80), sends(challenge(last.Id+1, w, "me")), 2, "u"})
		silent(c.Tries+1, w, "u", 2)
		follow(t, s, line{tick(1), fails(), 3, "u"})
	}
}

// TestP20_2ChapIds: identifiers go from 1 to 255, then 0, and on.
func TestP20_2ChapIds(t *testing.T) {
	s := server(t, chapConf(1, 1, 1), "me")
	out := s.Start(0)
	for n := 1; n <= 1000; n++ {
		id, v := uint8(n%256), digest(be(uint32(n-1)))
		if !same(out, sends(challenge(id, v, "me"))) {
			t.Fatalf("%d: %s", n, told(out))
		}
		want := sends(success(id))
		if n == 1 {
			want = as(isDone(success(id)), "u")
		}
		follow(t, s, line{get(response(id, "pw", v, "u"), "pw", true), want, 2, "u"})
		out = s.Tick(uint32(n))
	}
}

// TestP20_2ChapName: names of each length, the server's and the peer's, and empty ones; a response of 256 bytes of a name is no response.
func TestP20_2ChapName(t *testing.T) {
	v := digest(be(1))
	for n := range 257 {
		name := strings.Repeat("n", n)
		if n < 256 {
			follow(t, server(t, chapConf(1, 1, 0), name), line{start(1), sends(challenge(1, v, name)), 1, ""})
		}
		s := server(t, chapConf(1, 1, 0), "me")
		s.Start(1)
		got, is := s.Claims(response(1, "pw", v, name))
		if n == 256 {
			if got != "" || is {
				t.Error("a name of 256 bytes is claimed")
			}
			follow(t, s, line{get(response(1, "pw", v, name), "pw", true), nothing(), 1, ""})
			continue
		}
		if got != name || !is {
			t.Errorf("a name of %d bytes is claimed as %q, %v", n, got, is)
		}
		follow(t, s, line{get(response(1, "pw", v, name), "pw", true), as(isDone(success(1)), name), 2, name})
	}
}

// TestP20_2ServerCopies: a copy goes on alone, and is equal to what it was copied from.
func TestP20_2ServerCopies(t *testing.T) {
	v := digest(be(1))
	s := server(t, chapConf(2, 2, 1), "me")
	s.Start(1)
	s.Tick(2)
	a, b := s.Copy(), s.Copy()
	if a == s || a == b {
		t.Fatal("a copy is no copy")
	}
	right := line{get(response(1, "pw", v, "u"), "pw", true), as(isDone(success(1)), "u"), 2, "u"}
	follow(t, a, right, line{tick(3), sends(challenge(2, digest(be(3)), "me")), 2, "u"})
	follow(t, b, line{tick(9), sends(challenge(2, v, "me")), 1, ""}, line{tick(9), nothing(), 1, ""}, line{tick(9), fails(), 3, ""})
	follow(t, s, right)
}

// TestP20_2ServerMemory: an outcome may be changed without effect.
func TestP20_2ServerMemory(t *testing.T) {
	v := digest(be(1))
	s := server(t, chapConf(3, 1, 0), "me")
	spoil := func(out api.AuthOut) {
		for i := range out.Pkts {
			out.Pkts[i] = pkt(99, 99, "x")
		}
	}
	spoil(s.Start(1))
	spoil(s.Tick(2))
	right := get(response(2, "pw", v, "u"), "pw", true)
	spoil(right.does(s))
	spoil(right.does(s))
	follow(t, s, line{right, sends(success(2)), 2, "u"})
	first := right.does(s)
	kept := slices.Clone(first.Pkts)
	spoil(right.does(s))
	if !slices.Equal(first.Pkts, kept) {
		t.Error("two outcomes are one")
	}
}
