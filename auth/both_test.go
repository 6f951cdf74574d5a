package auth

import (
	"math/rand"
	"testing"

	"halyard/api"
)

// ends are a server and a client of one configuration, with what is on the way between them.
type ends struct {
	s                  *Server
	d                  *Client
	toServer, toClient []api.Packet
	done               []string // the names of what the server told
	doneClient, failed int
}

// server and client take what came of something.
func (b *ends) server(out api.AuthOut) {
	b.toClient = append(b.toClient, out.Pkts...)
	if out.Done {
		b.done = append(b.done, out.Name)
	}
	if out.Failed {
		b.failed++
	}
}
func (b *ends) client(out api.AuthOut) {
	b.toServer = append(b.toServer, out.Pkts...)
	if out.Done {
		b.doneClient++
	}
	if out.Failed {
		b.failed++
	}
}

// deliver lets all packets arrive, and those that come of them; the server knows this secret of whoever is claimed.
func (b *ends) deliver(secret string) {
	for len(b.toServer)+len(b.toClient) > 0 {
		if len(b.toServer) > 0 {
			p := b.toServer[0]
			b.toServer = b.toServer[1:]
			b.server(b.s.Packet(p, secret, true))
			continue
		}
		p := b.toClient[0]
		b.toClient = b.toClient[1:]
		b.client(b.d.Packet(p))
	}
}

// begins starts both, the one or the other first.
func begins(t *testing.T, c api.AuthConf, name, secret string, draw uint32, serverFirst bool) *ends {
	t.Helper()
	b := &ends{s: server(t, c, "me"), d: client(t, c, name, secret)}
	if serverFirst {
		b.server(b.s.Start(draw))
		b.client(b.d.Start())
		return b
	}
	b.client(b.d.Start())
	b.server(b.s.Start(draw))
	return b
}

// pairs calls with each kind of small configurations, and which end is started first.
func pairs(with func(c api.AuthConf, serverFirst bool)) {
	for kind := uint8(1); kind <= 2; kind++ {
		for _, tries := range []int{1, 2, 20} {
			for _, wait := range []int{1, 3} {
				for _, again := range []int{0, 1, 5} {
					with(conf(kind, tries, wait, again), true)
					with(conf(kind, tries, wait, again), false)
				}
			}
		}
	}
}

// secrets are some that differ.
var secrets = []string{"", "a", "b", "ab", "pw", "pw\x00", "\x00", "\xff\xfe", "PW", "p"}

// TestP20_3Same: with the same secret both become done, at once and by one packet, and remain so however often it is asked again.
func TestP20_3Same(t *testing.T) {
	pairs(func(c api.AuthConf, serverFirst bool) {
		for i, secret := range secrets {
			for _, name := range []string{"", "u", "me", "a long name"} {
				b := begins(t, c, name, secret, uint32(i), serverFirst)
				b.deliver(secret)
				for n := range 600 {
					if b.s.State() != 2 || b.d.State() != 2 || b.s.Name() != name || len(b.done) != 1 || b.done[0] != name || b.doneClient != 1 || b.failed != 0 {
						t.Fatalf("%v, %q, %q, behind %d ticks: %d, %d, %q, %q, %d, %d", c, name, secret, n, b.s.State(), b.d.State(), b.s.Name(), b.done, b.doneClient, b.failed)
					}
					b.server(b.s.Tick(uint32(n)))
					b.client(b.d.Tick())
					b.deliver(secret)
				}
			}
		}
	})
}

// TestP20_3Late: what is lost is sent again: both become done as long as one of the tries arrives, and is answered.
func TestP20_3Late(t *testing.T) {
	for kind := uint8(1); kind <= 2; kind++ {
		for lost := range 20 {
			b := begins(t, conf(kind, 20, 2, 0), "u", "pw", 1, true)
			for range 2 * lost {
				b.toServer, b.toClient = nil, nil
				b.server(b.s.Tick(1))
				b.client(b.d.Tick())
			}
			b.deliver("pw")
			if b.s.State() != 2 || b.d.State() != 2 {
				t.Errorf("%d: of %d lost: %d, %d", kind, lost, b.s.State(), b.d.State())
			}
		}
	}
}

// TestP20_3Lost: where the server's answer is lost, what the client sends then again is answered the same.
func TestP20_3Lost(t *testing.T) {
	v := digest(be(4))
	s := server(t, chapConf(3, 2, 0), "me")
	s.Start(4)
	r := response(1, "pw", v, "u")
	first := s.Packet(r, "pw", true)
	for range 300 {
		if out := s.Packet(r, "pw", true); !same(out, sends(first.Pkts...)) {
			t.Fatal(told(out))
		}
	}
}

// TestP20_3Other: with different secrets the server never becomes done, whatever is delivered; both fail.
func TestP20_3Other(t *testing.T) {
	pairs(func(c api.AuthConf, serverFirst bool) {
		for i, has := range secrets {
			for _, wants := range secrets {
				if has == wants {
					continue
				}
				b := begins(t, c, "u", has, uint32(i), serverFirst)
				for n := range 100 {
					b.deliver(wants)
					if len(b.done) != 0 || b.doneClient != 0 || b.s.State() == 2 || b.d.State() == 2 || b.s.Name() != "" {
						t.Fatalf("%v, %q and %q: %q, %d, %d", c, has, wants, b.done, b.s.State(), b.d.State())
					}
					b.server(b.s.Tick(uint32(n)))
					b.client(b.d.Tick())
				}
				if b.s.State() != 3 || b.d.State() != 3 {
					t.Fatalf("%v, %q and %q: %d, %d", c, has, wants, b.s.State(), b.d.State())
				}
			}
		}
	})
}

// proves is whether a packet is of this secret for the last challenge of which this is the identifier and the value.
func proves(c api.AuthConf, p api.Packet, secret string, id uint8, value string) bool {
	if c.Kind == 1 {
		_, has, is := isAsked(p)
		return is && has == secret
	}
	has, _, is := isRead(p)
	return is && p.Code == 2 && p.Id == id && has == digest(text(id)+secret+value)
}

// TestP20_3Proof: along random rows of what two clients send, one of which knows the secret, of pieces of it and of anything else, the server becomes done only by a packet that is checked with the secret that is passed then.
func TestP20_3Proof(t *testing.T) {
	was := [2]int{}
	for i := range 4000 {
		r := rand.New(rand.NewSource(int64(i)))
		c := conf(uint8(1+i%2), 1+r.Intn(5), 1+r.Intn(4), r.Intn(4))
		s := server(t, c, "me")
		sent := []api.Packet{{}}
		var id uint8
		var value string
		take := func(out api.AuthOut) {
			for _, p := range out.Pkts {
				if v, _, is := isRead(p); is && c.Kind == 2 && p.Code == 1 {
					id, value = p.Id, v
				}
			}
			sent = append(sent, out.Pkts...)
		}
		good, bad := client(t, c, "u", "pw"), client(t, c, "u", "no")
		take(s.Start(r.Uint32()))
		take(good.Start())
		take(bad.Start())
		for range 30 {
			p := sent[r.Intn(len(sent))]
			switch r.Intn(8) {
			case 0:
				p.Id++
			case 1:
				p.Code = uint8(r.Intn(5))
			case 2:
				p.Data = p.Data[:r.Intn(len(p.Data)+1)]
			}
			switch r.Intn(5) {
			case 0:
				take(s.Tick(r.Uint32()))
				take(good.Tick())
			case 1:
				take(bad.Packet(p))
			case 2:
				take(good.Packet(p))
			default:
				secret, known, before := []string{"pw", "other"}[r.Intn(4)/3], r.Intn(8) > 0, s.State()
				out := s.Packet(p, secret, known)
				if (before != 2 && s.State() == 2) != out.Done {
					t.Fatalf("row %d: from %d to %d: %s", i, before, s.State(), told(out))
				}
				if out.Done && !(known && proves(c, p, secret, id, value) && s.Name() == out.Name) {
					t.Fatalf("row %d: %v: done by %q with %q, %v", i, c, p, secret, known)
				}
				if out.Done {
					was[i%2]++
				}
				take(out)
			}
		}
	}
	if was[0] < 100 || was[1] < 100 {
		t.Errorf("%v became done", was)
	}
}

// TestP20_3Older: a response to an older challenge is not claimed, and does nothing, when the last one is open and when none is.
func TestP20_3Older(t *testing.T) {
	s := server(t, chapConf(20, 1, 1), "me")
	var all []api.Packet
	old := func(state uint8) {
		t.Helper()
		for _, p := range all {
			if name, is := s.Claims(p); is || name != "" {
				t.Fatalf("%q is claimed", p)
			}
			follow(t, s, line{get(p, "pw", true), nothing(), state, s.Name()})
		}
	}
	// At first the same value, again and again, and then, once it is done, others.
	out := s.Start(0)
	for n := 1; n <= 100; n++ {
		value, _, _ := isRead(out.Pkts[0])
		state := s.State()
		old(state)
		p := response(uint8(n), "pw", value, "u")
		if n < 20 {
			all = append(all, p)
			out = s.Tick(uint32(n))
			continue
		}
		if name, is := s.Claims(p); !is || name != "u" {
			t.Fatalf("%q is not claimed", p)
		}
		if n%3 != 0 { // it is answered, and the next one has another value
			s.Packet(p, "pw", true)
			old(2)
		}
		all = append(all, p)
		if out = s.Tick(uint32(n)); len(out.Pkts) != 1 {
			t.Fatalf("%d: %s", n, told(out))
		}
		if n%3 != 0 {
			// What was answered last is the one older response that is answered again.
			all = all[:len(all)-1]
		}
	}
}
