package auth

import (
	"fmt"
	"slices"
	"strings"
	"testing"

	"halyard/api"
)

// move is a step of a client: its beginning, a tick, or a packet.
type move struct {
	what int
	p    api.Packet
}

func (x move) String() string { return fmt.Sprintf("(%d %q)", x.what, x.p) }

// begin, pass and hear are moves.
func begin() move            { return move{what: starts} }
func pass() move             { return move{what: ticks} }
func hear(p api.Packet) move { return move{what: gets, p: p} }

// does is the move done to a client.
func (x move) does(d *Client) api.AuthOut {
	switch x.what {
	case starts:
		return d.Start()
	case ticks:
		return d.Tick()
	}
	return d.Packet(x.p)
}

// turn is a move, what must come of it, and what the client must be behind it.
type turn struct {
	x     move
	want  api.AuthOut
	state uint8
}

// play does a row of moves to a client, and holds it against what is written.
func play(t *testing.T, d *Client, row ...turn) {
	t.Helper()
	for i, x := range row {
		if out := x.x.does(d); !same(out, x.want) {
			t.Fatalf("%d: of %v comes %s, not %s", i, x.x, told(out), told(x.want))
		}
		if d.State() != x.state {
			t.Fatalf("%d: behind %v it is %d", i, x.x, d.State())
		}
	}
}

// clientModel is a client, word by word as the chapter defines it; two of the same are equal.
type clientModel struct {
	conf        api.AuthConf
	own, secret string
	state       uint8
	requests    int // how many were sent, from the identifier 1 on
	timer       int
	responded   bool
	last        uint8 // of the last challenge to which it sent a response
}

// asks is the chapter's words: it requests.
func (m *clientModel) asks() api.AuthOut {
	m.requests++
	m.timer = m.conf.Wait
	return sends(request(uint8(m.requests), m.own, m.secret))
}

// ends is what an answer does.
func (m *clientModel) ends(well bool) api.AuthOut {
	if !well {
		m.state = 3
		return fails()
	}
	was := m.state
	m.state = 2
	if was == 1 {
		return isDone()
	}
	return nothing()
}

// packet is the chapter's words.
func (m *clientModel) packet(p api.Packet) api.AuthOut {
	if m.state == 0 || m.state == 3 {
		return nothing()
	}
	if m.conf.Kind == 1 {
		accepted := (p.Code == 2 || p.Code == 3) && p.Data != "" && len(p.Data) == 1+int(p.Data[0])
		if m.state == 1 && accepted && p.Id == uint8(m.requests) {
			return m.ends(p.Code == 2)
		}
		return nothing()
	}
	if value, _, is := isRead(p); is && p.Code == 1 {
		m.responded, m.last = true, p.Id
		return sends(response(p.Id, m.secret, value, m.own))
	}
	if (p.Code == 3 || p.Code == 4) && len(p.Data) <= 255 && m.responded && p.Id == m.last {
		return m.ends(p.Code == 3)
	}
	return nothing()
}

// does is the move done to a model.
func (x move) doesModel(m *clientModel) api.AuthOut {
	switch {
	case x.what == gets:
		return m.packet(x.p)
	case x.what == starts && m.state == 0:
		m.state = 1
		if m.conf.Kind == 1 {
			return m.asks()
		}
	case x.what == ticks && m.state == 1 && m.conf.Kind == 1:
		m.timer--
		if m.timer == 0 && m.requests < m.conf.Tries {
			return m.asks()
		}
		if m.timer == 0 {
			m.state = 3
			return fails()
		}
	}
	return nothing()
}

// moves are moves of every kind that matter to a client as it is now.
func (m *clientModel) moves() []move {
	l := []move{begin(), pass()}
	id := m.last
	if m.conf.Kind == 1 {
		id = uint8(m.requests)
	}
	long := strings.Repeat("m", 255)
	for _, n := range []uint8{id, id - 1, id + 1, 0} {
		for code := range uint8(6) {
			for _, data := range []string{"", "\x00", "\x02hi", "\x02h", "\x02hix", encoding(long), "\x10" + digest("x") + "me", "\x01" + long, "\x01v" + long, "\x01v" + long + "n", long, long + "m"} {
				l = append(l, hear(pkt(code, n, data)))
			}
		}
	}
	return append(l, hear(challenge(254, "other", "")))
}

// TestP20_2Clients: every move from every client that any row of moves can make of small configurations; each client goes on by copies.
func TestP20_2Clients(t *testing.T) {
	type pair struct {
		d *Client
		m clientModel
	}
	for _, c := range []api.AuthConf{papConf(1, 1, 0), papConf(2, 1, 1), papConf(3, 2, 0), papConf(2, 4, 9), chapConf(1, 1, 0), chapConf(2, 2, 1)} {
		first := clientModel{conf: c, own: "u", secret: "pw"}
		seen := map[clientModel]bool{first: true}
		work := []pair{{client(t, c, "u", "pw"), first}}
		for len(work) > 0 {
			at := work[len(work)-1]
			work = work[:len(work)-1]
			for _, x := range at.m.moves() {
				d, m := at.d.Copy(), at.m
				out, want := x.does(d), x.doesModel(&m)
				if !same(out, want) || d.State() != m.state {
					t.Fatalf("%v: at %v: of %v comes %s, not %s; it is %d, not %d", c, at.m, x, told(out), told(want), d.State(), m.state)
				}
				if !seen[m] {
					seen[m] = true
					work = append(work, pair{d, m})
				}
			}
			if at.d.State() != at.m.state {
				t.Fatalf("%v: behind its copies, it is %d, not %d", c, at.d.State(), at.m.state)
			}
		}
		if least := 3 + c.Tries*c.Wait; c.Kind == 1 && len(seen) < least || c.Kind == 2 && len(seen) < 3*256 {
			t.Errorf("%v: only %d were seen", c, len(seen))
		}
	}
}

// TestP20_2ClientPap: requests that are written out, one each Wait ticks, Tries of them.
func TestP20_2ClientPap(t *testing.T) {
	d := client(t, papConf(2, 3, 0), "u", "pw")
	play(t, d,
		turn{hear(ack(1)), nothing(), 0},
		turn{begin(), sends(pkt(1, 1, "\x01u\x02pw")), 1},
		turn{begin(), nothing(), 1},
		turn{pass(), nothing(), 1},
		turn{hear(ack(0)), nothing(), 1},
		turn{hear(nak(2)), nothing(), 1},
		turn{hear(challenge(1, "v", "s")), nothing(), 1},
		turn{hear(success(1)), nothing(), 1},
		turn{hear(failure(1)), nothing(), 1},
	)
	play(t, d.Copy(),
		turn{hear(pkt(2, 1, "\x05hello")), isDone(), 2},
		turn{hear(ack(1)), nothing(), 2},
		turn{hear(nak(1)), nothing(), 2},
		turn{begin(), nothing(), 2},
		turn{pass(), nothing(), 2},
		turn{pass(), nothing(), 2},
		turn{pass(), nothing(), 2},
	)
	play(t, d.Copy(),
		turn{hear(pkt(3, 1, "\x05hello")), fails(), 3},
		turn{hear(ack(1)), nothing(), 3},
		turn{begin(), nothing(), 3},
		turn{pass(), nothing(), 3},
	)
	play(t, d,
		turn{pass(), nothing(), 1},
		turn{pass(), sends(pkt(1, 2, "\x01u\x02pw")), 1},
		turn{hear(ack(1)), nothing(), 1},
		turn{hear(nak(1)), nothing(), 1},
		turn{pass(), nothing(), 1},
		turn{pass(), nothing(), 1},
	)
	play(t, d.Copy(), turn{hear(ack(2)), isDone(), 2})
	play(t, d.Copy(), turn{hear(nak(2)), fails(), 3})
	play(t, d, turn{pass(), fails(), 3}, turn{hear(ack(2)), nothing(), 3}, turn{pass(), nothing(), 3})
}

// TestP20_2ClientPapTime: the least and the greatest numbers.
func TestP20_2ClientPapTime(t *testing.T) {
	for _, c := range []api.AuthConf{papConf(1, 1, 0), papConf(20, 1, 0), papConf(1, 1000, 0), papConf(20, 1000, 5), papConf(3, 7, 100000)} {
		d := client(t, c, "u", "pw")
		out := d.Start()
		for n := 1; n <= c.Tries; n++ {
			if !same(out, sends(request(uint8(n), "u", "pw"))) {
				t.Fatalf("%v: %d: %s", c, n, told(out))
			}
			for range c.Wait - 1 {
				play(t, d, turn{pass(), nothing(), 1})
			}
			out = d.Tick()
		}
		if !same(out, fails()) || d.State() != 3 {
			t.Errorf("%v: %s", c, told(out))
		}
	}
}

// TestP20_2ClientChap: responses with digests that are written out; only what answers the last one counts, also once it is done.
func TestP20_2ClientChap(t *testing.T) {
	const of1, of2 = "\xf6\xfa\x08\xf7\x6c\x05\x1c\x1a\x45\x38\x55\x66\xb4\xa5\x8e\xdc", "\xf6\xe0\xb9\xfa\x79\xa4\xe9\x76\xb3\x9d\x2e\xd4\xf1\x45\x4c\xa8"
	d := client(t, chapConf(1, 1, 0), "me", "s")
	play(t, d,
		turn{hear(challenge(1, "xy", "you")), nothing(), 0},
		turn{begin(), nothing(), 1},
		turn{begin(), nothing(), 1},
		turn{hear(success(0)), nothing(), 1}, // none was responded to
		turn{hear(failure(0)), nothing(), 1},
		turn{hear(challenge(1, "", "you")), nothing(), 1},
		turn{hear(success(1)), nothing(), 1},
		turn{hear(challenge(1, "xy", "you")), sends(pkt(2, 1, "\x10"+of1+"me")), 1},
		turn{hear(pkt(2, 1, "\x10"+of1+"me")), nothing(), 1},
		turn{hear(success(0)), nothing(), 1},
		turn{hear(failure(2)), nothing(), 1},
	)
	for range 100 { // it waits for the peer
		play(t, d, turn{pass(), nothing(), 1})
	}
	play(t, d.Copy(), turn{hear(pkt(4, 1, "no")), fails(), 3}, turn{hear(challenge(1, "xy", "you")), nothing(), 3}, turn{hear(success(1)), nothing(), 3}, turn{begin(), nothing(), 3})
	play(t, d,
		turn{hear(challenge(0, "xy", "")), sends(response(0, "s", "xy", "me")), 1},
		turn{hear(success(1)), nothing(), 1},
		turn{hear(pkt(3, 0, "welcome")), isDone(), 2},
		turn{hear(success(0)), nothing(), 2},
		turn{hear(failure(1)), nothing(), 2},
		turn{pass(), nothing(), 2},
		turn{begin(), nothing(), 2},
		turn{hear(challenge(7, "z", "")), sends(response(7, "s", "z", "me")), 2},
		turn{hear(failure(0)), nothing(), 2},
		turn{hear(success(7)), nothing(), 2},
	)
	play(t, d.Copy(), turn{hear(failure(7)), fails(), 3})
	play(t, d, turn{hear(challenge(7, "z", "")), sends(response(7, "s", "z", "me")), 2}, turn{hear(failure(7)), fails(), 3})
	e := client(t, chapConf(1, 1, 0), "name", "secret")
	play(t, e, turn{begin(), nothing(), 1}, turn{hear(challenge(9, "value", "")), sends(pkt(2, 9, "\x10"+of2+"name")), 1})
}

// TestP20_2ClientLong: names, secrets and values of each length.
func TestP20_2ClientLong(t *testing.T) {
	for n := range 256 {
		s := strings.Repeat("x", n)
		d, e := client(t, papConf(1, 1, 0), s, "pw"), client(t, papConf(1, 1, 0), "u", s)
		play(t, d, turn{begin(), sends(request(1, s, "pw")), 1})
		play(t, e, turn{begin(), sends(request(1, "u", s)), 1})
		d, e = client(t, chapConf(1, 1, 0), s, s), client(t, chapConf(1, 1, 0), "u", "pw")
		play(t, d, turn{begin(), nothing(), 1}, turn{hear(challenge(3, "v", s)), sends(response(3, s, "v", s)), 1})
		play(t, e, turn{begin(), nothing(), 1})
		if n > 0 {
			play(t, e, turn{hear(challenge(uint8(n), s, "s")), sends(response(uint8(n), "pw", s, "u")), 1})
		}
	}
}

// TestP20_2ClientCopies: a copy goes on alone, and an outcome may be changed without effect.
func TestP20_2ClientCopies(t *testing.T) {
	d := client(t, papConf(3, 2, 0), "u", "pw")
	first := d.Start()
	kept := slices.Clone(first.Pkts)
	a, b := d.Copy(), d.Copy()
	if a == d || a == b {
		t.Fatal("a copy is no copy")
	}
	play(t, a, turn{hear(ack(1)), isDone(), 2})
	play(t, b, turn{pass(), nothing(), 1}, turn{pass(), sends(request(2, "u", "pw")), 1}, turn{hear(ack(1)), nothing(), 1})
	if !slices.Equal(first.Pkts, kept) {
		t.Error("an outcome is changed")
	}
	first.Pkts[0] = pkt(99, 99, "x")
	play(t, d, turn{pass(), nothing(), 1}, turn{pass(), sends(request(2, "u", "pw")), 1}, turn{hear(nak(2)), fails(), 3})
}
