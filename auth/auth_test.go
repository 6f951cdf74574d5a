package auth

import (
	"crypto/md5"
	"fmt"
	"math"
	"slices"
	"strings"
	"testing"

	"halyard/api"
)

// text is these bytes as a string.
func text(l ...byte) string { return string(l) }

// be is the big-endian bytes of a number.
func be(n uint32) string { return text(byte(n>>24), byte(n>>16), byte(n>>8), byte(n)) }

// digest is the digest of Go's library.
func digest(s string) string {
	sum := md5.Sum([]byte(s))
	return string(sum[:])
}

// encoding is layer 1's definition: the length, one byte, and the bytes.
func encoding(s string) string { return text(byte(len(s))) + s }

// pkt is a packet.
func pkt(code, id uint8, data string) api.Packet { return api.Packet{Code: code, Id: id, Data: data} }

// request, ack and nak are packets of PAP, the answers without a message.
func request(id uint8, name, secret string) api.Packet {
	return pkt(1, id, encoding(name)+encoding(secret))
}
func ack(id uint8) api.Packet { return pkt(2, id, "\x00") }
func nak(id uint8) api.Packet { return pkt(3, id, "\x00") }

// challenge, response, success and failure are packets of CHAP, the answers without a message.
func challenge(id uint8, value, name string) api.Packet {
	return pkt(1, id, encoding(value)+name)
}
func response(id uint8, secret, value, name string) api.Packet {
	return pkt(2, id, encoding(digest(text(id)+secret+value))+name)
}
func success(id uint8) api.Packet { return pkt(3, id, "") }
func failure(id uint8) api.Packet { return pkt(4, id, "") }

// isAsked is layer 18's words on a request, with what is in it.
func isAsked(p api.Packet) (name, secret string, is bool) {
	if p.Code != 1 || p.Data == "" {
		return "", "", false
	}
	rest := p.Data[1:]
	n := int(p.Data[0])
	if len(rest) < n+1 || len(rest) != n+1+int(rest[n]) {
		return "", "", false
	}
	return rest[:n], rest[n+1:], true
}

// isRead is layer 19's words on a challenge, or a response, with what is in it.
func isRead(p api.Packet) (value, name string, is bool) {
	if p.Code != 1 && p.Code != 2 || p.Data == "" || p.Data[0] == 0 {
		return "", "", false
	}
	ends := 1 + int(p.Data[0])
	if len(p.Data) < ends || len(p.Data)-ends > 255 {
		return "", "", false
	}
	return p.Data[1:ends], p.Data[ends:], true
}

// nothing, sends, done and fails are outcomes.
func nothing() api.AuthOut                     { return api.AuthOut{} }
func sends(l ...api.Packet) api.AuthOut        { return api.AuthOut{Pkts: l} }
func fails(l ...api.Packet) api.AuthOut        { return api.AuthOut{Pkts: l, Failed: true} }
func isDone(l ...api.Packet) api.AuthOut       { return api.AuthOut{Pkts: l, Done: true} }
func as(out api.AuthOut, n string) api.AuthOut { out.Name = n; return out }
func cut(s string) string                      { return s[:len(s)-1] }
func conf(kind uint8, l ...int) api.AuthConf {
	return api.AuthConf{Kind: kind, Tries: l[0], Wait: l[1], Again: l[2]}
}
func papConf(tries, wait, again int) api.AuthConf  { return conf(1, tries, wait, again) }
func chapConf(tries, wait, again int) api.AuthConf { return conf(2, tries, wait, again) }

// same is whether both outcomes are the same.
func same(a, b api.AuthOut) bool {
	return a.Done == b.Done && a.Failed == b.Failed && a.Name == b.Name && slices.Equal(a.Pkts, b.Pkts)
}

// told is an outcome as a text.
func told(out api.AuthOut) string {
	return fmt.Sprintf("%q done %v failed %v %q", out.Pkts, out.Done, out.Failed, out.Name)
}

// server and client are such ones, which must be there.
func server(t *testing.T, c api.AuthConf, name string) *Server {
	t.Helper()
	s, e := NewServer(c, name)
	if e != api.OK || s == nil {
		t.Fatalf("NewServer(%v, %q): %v", c, name, e)
	}
	return s
}
func client(t *testing.T, c api.AuthConf, name, secret string) *Client {
	t.Helper()
	d, e := NewClient(c, name, secret)
	if e != api.OK || d == nil {
		t.Fatalf("NewClient(%v, %q, %q): %v", c, name, secret, e)
	}
	return d
}

// checkNew is whether both are made, or neither is, and both are idle.
func checkNew(t *testing.T, c api.AuthConf, name, secret string, goodServer, goodClient bool) {
	t.Helper()
	s, e := NewServer(c, name)
	switch {
	case goodServer && (e != api.OK || s == nil || s.State() != 0 || s.Name() != ""):
		t.Errorf("NewServer(%v) with %d bytes: %v, %v", c, len(name), s, e)
	case !goodServer && (e != api.ErrArg || s != nil):
		t.Errorf("NewServer(%v) with %d bytes: %v, %v", c, len(name), s, e)
	}
	d, e := NewClient(c, name, secret)
	switch {
	case goodClient && (e != api.OK || d == nil || d.State() != 0):
		t.Errorf("NewClient(%v) with %d and %d bytes: %v, %v", c, len(name), len(secret), d, e)
	case !goodClient && (e != api.ErrArg || d != nil):
		t.Errorf("NewClient(%v) with %d and %d bytes: %v, %v", c, len(name), len(secret), d, e)
	}
}

// TestP20_1Conf: each number on both sides of its limits, with the others at theirs, for each kind.
func TestP20_1Conf(t *testing.T) {
	tries := []int{math.MinInt, -1, 0, 1, 2, 19, 20, 21, 256, math.MaxInt}
	waits := []int{math.MinInt, -1, 0, 1, 2, 999, 1000, 1001, math.MaxInt}
	agains := []int{math.MinInt, -1, 0, 1, 99999, 100000, 100001, math.MaxInt}
	for _, kind := range []uint8{0, 1, 2, 3, 4, 255} {
		for _, n := range tries {
			for _, w := range waits {
				for _, a := range agains {
					good := (kind == 1 || kind == 2) && n >= 1 && n <= 20 && w >= 1 && w <= 1000 && a >= 0 && a <= 100000
					checkNew(t, conf(kind, n, w, a), "s", "pw", good, good)
				}
			}
		}
	}
	for kind := range 256 {
		good := kind == 1 || kind == 2
		checkNew(t, conf(uint8(kind), 3, 2, 1), "s", "pw", good, good)
	}
	for n := -5; n < 30; n++ {
		checkNew(t, papConf(n, 1, 0), "", "", n >= 1 && n <= 20, n >= 1 && n <= 20)
	}
}

// TestP20_1Strings: a name, and a secret, has at most 255 bytes; each is looked at by itself.
func TestP20_1Strings(t *testing.T) {
	for _, c := range []api.AuthConf{papConf(3, 2, 1), chapConf(3, 2, 1)} {
		for _, n := range []int{0, 1, 16, 128, 254, 255, 256, 257, 511, 512, 65536} {
			for _, m := range []int{0, 1, 16, 128, 254, 255, 256, 257, 511, 512, 65536} {
				checkNew(t, c, strings.Repeat("n", n), strings.Repeat("s", m), n <= 255, n <= 255 && m <= 255)
			}
		}
	}
}

// TestP20_1Idle: a machine is idle until it is started: neither packets nor ticks do anything, and nothing is claimed.
func TestP20_1Idle(t *testing.T) {
	v := digest(be(0))
	for _, c := range []api.AuthConf{papConf(1, 1, 1), chapConf(1, 1, 1)} {
		s, d := server(t, c, "s"), client(t, c, "u", "pw")
		for _, p := range []api.Packet{
			{}, request(0, "u", "pw"), request(1, "u", "pw"), response(0, "pw", "", "u"), response(0, "pw", v, "u"), response(1, "pw", v, "u"),
			ack(0), ack(1), nak(0), nak(1), challenge(0, "v", "s"), challenge(1, "v", "s"), success(0), success(1), failure(0), failure(1),
		} {
			if name, is := s.Claims(p); name != "" || is {
				t.Errorf("%v: %q is claimed: %q", c, p, name)
			}
			if out := s.Packet(p, "pw", true); !same(out, nothing()) || s.State() != 0 || s.Name() != "" {
				t.Errorf("%v: of %q comes %s", c, p, told(out))
			}
			if out := d.Packet(p); !same(out, nothing()) || d.State() != 0 {
				t.Errorf("%v: a client's: of %q comes %s", c, p, told(out))
			}
		}
		for range 3 {
			if out := s.Tick(0); !same(out, nothing()) || s.State() != 0 {
				t.Errorf("%v: of a tick comes %s", c, told(out))
			}
			if out := d.Tick(); !same(out, nothing()) || d.State() != 0 {
				t.Errorf("%v: a client's: of a tick comes %s", c, told(out))
			}
		}
	}
}

// TestP20_2Nil: a nil machine is idle, is named nothing, has no copy, and does nothing (R3).
func TestP20_2Nil(t *testing.T) {
	var s *Server
	var d *Client
	for range 2 {
		for _, p := range []api.Packet{{}, request(1, "u", "pw"), response(0, "", "", "u"), challenge(1, "v", "s"), ack(1), success(0)} {
			if name, is := s.Claims(p); name != "" || is {
				t.Errorf("%q is claimed", p)
			}
			for _, out := range []api.AuthOut{s.Start(1), s.Packet(p, "pw", true), s.Tick(1), d.Start(), d.Packet(p), d.Tick()} {
				if !same(out, nothing()) {
					t.Error(told(out))
				}
			}
		}
		if s.State() != 0 || s.Name() != "" || s.Copy() != nil || d.State() != 0 || d.Copy() != nil {
			t.Error(s.State(), s.Name(), s.Copy(), d.State(), d.Copy())
		}
	}
}
