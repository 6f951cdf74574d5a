package negot

import (
	"fmt"
	"math"
	"math/rand"
	"reflect"
	"slices"
	"strings"
	"testing"

	"halyard/api"
	"halyard/auto"
	"halyard/fsm"
	"halyard/ipcppol"
	"halyard/lcppol"
)

// be is the big-endian bytes of a number.
func be(n uint32) string {
	return string([]byte{byte(n >> 24), byte(n >> 16), byte(n >> 8), byte(n)})
}

// bytesOf is the encoding of a list.
func bytesOf(l ...api.Opt) string {
	s := ""
	for _, o := range l {
		s += string([]byte{o.Type, byte(2 + len(o.Data))}) + o.Data
	}
	return s
}

// optionsOf is the list whose encoding a string is, if it is one's.
func optionsOf(s string) (l []api.Opt, is bool) {
	if len(s) > api.MaxData {
		return nil, false
	}
	for s != "" {
		if len(l) == api.MaxOpts || len(s) < 2 || s[1] < 2 || int(s[1]) > len(s) {
			return nil, false
		}
		l = append(l, api.Opt{Type: s[0], Data: s[2:s[1]]})
		s = s[s[1]:]
	}
	return l, true
}

// wholeOf is the encoding of a packet.
func wholeOf(p api.Packet) string {
	n := 4 + len(p.Data)
	return string([]byte{p.Code, p.Id, byte(n >> 8), byte(n)}) + p.Data
}

// Options of LCP and of IPCP.
func mru(n uint16) api.Opt   { return api.Opt{Type: api.OptMru, Data: be(uint32(n))[2:]} }
func magic(n uint32) api.Opt { return api.Opt{Type: api.OptMagic, Data: be(n)} }
func addr(n uint32) api.Opt  { return api.Opt{Type: api.OptAddr, Data: be(n)} }
func pap() api.Opt           { return api.Opt{Type: api.OptAuth, Data: "\xc0\x23"} }
func chap() api.Opt          { return api.Opt{Type: api.OptAuth, Data: "\xc2\x23\x05"} }

// model is a side, word by word as the chapter defines it.
type model struct {
	proto   uint16
	auto    *auto.Auto
	lcp     *lcppol.Policy
	ipcp    *ipcppol.Policy
	mru     int
	counter uint8
	last    int // -1: no Configure-Request was sent
}

func (m *model) copy() *model {
	c := *m
	c.auto, c.lcp, c.ipcp = m.auto.Copy(), m.lcp.Copy(), m.ipcp.Copy()
	return &c
}

// in is whether the state is one of these.
func (m *model) in(states ...uint8) bool {
	return slices.Contains(states, m.auto.State())
}

func (m *model) request() []api.Opt {
	if m.proto == api.ProtoLcp {
		return m.lcp.Request()
	}
	return m.ipcp.Request()
}

func (m *model) reset(draw uint32) {
	m.lcp.Reset(draw)
	m.ipcp.Reset()
}

func (m *model) judge(l []api.Opt) (uint8, []api.Opt) {
	if m.proto == api.ProtoLcp {
		return m.lcp.Judge(l...)
	}
	return m.ipcp.Judge(l...)
}

// takes is whether a reply is valid; if it is, the policies given go by it.
func (m *model) takes(a *lcppol.Policy, b *ipcppol.Policy, code uint8, l []api.Opt, draw uint32) bool {
	switch {
	case code == api.ConfAck && a != nil:
		return a.Acked(l...)
	case code == api.ConfAck:
		return b.Acked(l...)
	case code == api.ConfNak && a != nil:
		return a.Naked(draw, l...)
	case code == api.ConfNak:
		return b.Naked(l...)
	case a != nil:
		return a.Rejected(l...)
	}
	return b.Rejected(l...)
}

// performs is what comes of a set of actions.
func (m *model) performs(set uint16, got api.Packet, code uint8, answer []api.Opt) api.Out {
	var out api.Out
	send := func(p api.Packet) {
		if len(p.Data) <= api.MaxData {
			out.Pkts = append(out.Pkts, p)
		}
	}
	for bit := range 13 {
		switch action := set & (1 << bit); action {
		case api.ActTlu, api.ActTld, api.ActTls, api.ActTlf:
			out.Acts |= action
		case api.ActScr:
			m.counter++
			m.last = int(m.counter)
			send(api.Packet{Code: api.ConfReq, Id: m.counter, Data: bytesOf(m.request()...)})
		case api.ActSca, api.ActScn:
			send(api.Packet{Code: code, Id: got.Id, Data: bytesOf(answer...)})
		case api.ActStr:
			m.counter++
			send(api.Packet{Code: api.TermReq, Id: m.counter})
		case api.ActSta:
			send(api.Packet{Code: api.TermAck, Id: got.Id})
		case api.ActScj:
			m.counter++
			if len(got.Data) <= api.MaxData {
				whole := wholeOf(got)
				send(api.Packet{Code: api.CodeRej, Id: m.counter, Data: whole[:min(len(whole), m.mru-4, api.MaxData)]})
			}
		case api.ActSer:
			if got.Code == api.EchoReq {
				send(api.Packet{Code: api.EchoRep, Id: got.Id, Data: be(m.lcp.Wish().Magic) + got.Data[4:]})
			}
		}
	}
	return out
}

// passes is an event that is passed to the automaton.
func (m *model) passes(ev uint8, got api.Packet, code uint8, answer []api.Opt) (api.Out, api.Errno) {
	set, e := m.auto.Event(ev)
	if e != api.OK {
		return api.Out{}, e
	}
	return m.performs(set, got, code, answer), api.OK
}

// gets is a packet that is received.
func (m *model) gets(p api.Packet, draw uint32) api.Out {
	pass := func(ev uint8) api.Out {
		out, e := m.passes(ev, p, 0, nil)
		if e != api.OK {
			panic("a packet in a state where none may be")
		}
		return out
	}
	none := api.Out{}
	if m.in(api.StInitial, api.StStarting) {
		return none
	}
	lcp := m.proto == api.ProtoLcp
	switch {
	case p.Code == api.ConfReq:
		l, is := optionsOf(p.Data)
		if !is {
			return none
		}
		if m.in(api.StClosed, api.StClosing, api.StStopping) {
			return pass(api.EvRcrUp)
		}
		if m.in(api.StStopped) {
			m.reset(draw)
		}
		code, answer := m.judge(l)
		ev := uint8(api.EvRcrNo)
		if code == api.ConfAck {
			ev = api.EvRcrUp
		}
		out, _ := m.passes(ev, p, code, answer)
		return out
	case p.Code == api.ConfAck, p.Code == api.ConfNak, p.Code == api.ConfRej:
		l, is := optionsOf(p.Data)
		if !is || int(p.Id) != m.last {
			return none
		}
		a, b := m.lcp, m.ipcp
		if !m.in(api.StReqSent, api.StAckSent) {
			a, b = a.Copy(), b.Copy()
		}
		if !m.takes(a, b, p.Code, l, draw) {
			return none
		}
		if p.Code == api.ConfAck {
			return pass(api.EvRca)
		}
		return pass(api.EvRcn)
	case p.Code == api.TermReq:
		return pass(api.EvRtr)
	case p.Code == api.TermAck:
		return pass(api.EvRta)
	case p.Code == api.CodeRej && len(p.Data) < 4:
		return none
	case p.Code == api.CodeRej && p.Data[0] >= 1 && p.Data[0] <= 7:
		return pass(api.EvRxjNo)
	case p.Code == api.CodeRej:
		return pass(api.EvRxjUp)
	case lcp && p.Code == api.ProtoRej:
		if !m.in(api.StOpened) || len(p.Data) < 2 {
			return none
		}
		if p.Data[:2] == "\xc0\x21" {
			return pass(api.EvRxjNo)
		}
		out := pass(api.EvRxjUp)
		out.Proto = uint16(p.Data[0])<<8 | uint16(p.Data[1])
		return out
	case lcp && (p.Code == api.EchoReq || p.Code == api.EchoRep || p.Code == api.Discard):
		if len(p.Data) < 4 {
			return none
		}
		out := pass(api.EvRxr)
		out.Echo = p.Code == api.EchoRep && m.in(api.StOpened)
		return out
	}
	return pass(api.EvRuc)
}

// step is something that is done to a side.
type step struct {
	kind  string // event, packet, tick, reject, mru
	ev    uint8
	p     api.Packet
	draw  uint32
	proto uint16
	info  string
	mru   int
}

func (x step) String() string {
	switch x.kind {
	case "event":
		return fmt.Sprintf("event %d, draw %d", x.ev, x.draw)
	case "packet":
		return fmt.Sprintf("packet %d, %d, %.24q (%d bytes), draw %d", x.p.Code, x.p.Id, x.p.Data, len(x.p.Data), x.draw)
	case "tick":
		return fmt.Sprintf("tick, draw %d", x.draw)
	case "reject":
		return fmt.Sprintf("reject %#x with %d bytes", x.proto, len(x.info))
	}
	return fmt.Sprintf("mru %d", x.mru)
}

func event(ev uint8, draw uint32) step        { return step{kind: "event", ev: ev, draw: draw} }
func arrives(p api.Packet, draw uint32) step  { return step{kind: "packet", p: p, draw: draw} }
func tick(draw uint32) step                   { return step{kind: "tick", draw: draw} }
func protocol(proto uint16, info string) step { return step{kind: "reject", proto: proto, info: info} }
func takesUpTo(mru int) step                  { return step{kind: "mru", mru: mru} }

// does is the step done to the side.
func (x step) does(s *Side) (api.Out, api.Errno) {
	switch x.kind {
	case "event":
		return s.Event(x.ev, x.draw)
	case "packet":
		return s.Packet(x.p, x.draw)
	case "tick":
		return s.Tick(x.draw)
	case "reject":
		return s.Reject(x.proto, x.info)
	}
	return api.Out{}, s.SetMru(x.mru)
}

// says is the step done to the model.
func (x step) says(m *model) (api.Out, api.Errno) {
	switch x.kind {
	case "event":
		if x.ev > api.EvClose {
			return api.Out{}, api.ErrArg
		}
		up := m.in(api.StStarting) && x.ev == api.EvUp
		open := m.in(api.StClosed) && x.ev == api.EvOpen
		if up || open {
			m.reset(x.draw)
		}
		return m.passes(x.ev, api.Packet{}, 0, nil)
	case "packet":
		return m.gets(x.p, x.draw), api.OK
	case "tick":
		set, _ := m.auto.Tick()
		return m.performs(set, api.Packet{}, 0, nil), api.OK
	case "reject":
		if m.proto != api.ProtoLcp {
			return api.Out{}, api.ErrArg
		}
		if !m.in(api.StOpened) {
			return api.Out{}, api.OK
		}
		m.counter++
		data := string([]byte{byte(x.proto >> 8), byte(x.proto)}) + x.info
		data = data[:min(len(data), m.mru-4, api.MaxData)]
		return api.Out{Pkts: []api.Packet{{Code: api.ProtoRej, Id: m.counter, Data: data}}}, api.OK
	}
	if x.mru < 64 || x.mru > 65535 {
		return api.Out{}, api.ErrArg
	}
	m.mru = x.mru
	return api.Out{}, api.OK
}

// sameOut is whether two outcomes are equal; a nil row and an empty one are.
func sameOut(a, b api.Out) bool {
	return slices.Equal(a.Pkts, b.Pkts) && a.Acts == b.Acts && a.Proto == b.Proto && a.Echo == b.Echo
}

// agree is what is not the same of the side and of the model, if anything is.
func agree(s *Side, m *model) string {
	switch {
	case s.State() != m.auto.State():
		return fmt.Sprintf("state %d, not %d", s.State(), m.auto.State())
	case s.Left() != m.auto.Left():
		return fmt.Sprintf("%d ticks left, not %d", s.Left(), m.auto.Left())
	case !reflect.DeepEqual(s.Lcp(), m.lcp):
		return fmt.Sprintf("policy %+v, not %+v", s.Lcp(), m.lcp)
	case !reflect.DeepEqual(s.Ipcp(), m.ipcp):
		return fmt.Sprintf("policy %+v, not %+v", s.Ipcp(), m.ipcp)
	}
	return ""
}

// both is a step done to the side and to the model; it is what differs, if anything does.
func both(s *Side, m *model, x step) (api.Out, string) {
	want, wantE := x.says(m)
	got, gotE := x.does(s)
	if gotE != wantE || !sameOut(got, want) {
		return got, fmt.Sprintf("%+.100v, %d, not %+.100v, %d", got, gotE, want, wantE)
	}
	return got, agree(s, m)
}

// kind is of which protocol a side is, and its configurations.
type kind struct {
	proto uint16
	auto  api.AutoConf
	lcp   api.LcpConf
	ipcp  api.IpcpConf
}

func anAuto() api.AutoConf { return api.AutoConf{Restart: 2, MaxConf: 2, MaxTerm: 2} }

// kinds are some, of both protocols.
func kinds() []kind {
	return []kind{
		{proto: api.ProtoLcp, auto: anAuto(), lcp: api.LcpConf{MaxNaks: 1}},
		{proto: api.ProtoLcp, auto: anAuto(), lcp: api.LcpConf{
			Mru: 1400, HasAccm: true, Auth: api.AuthChap, Takes: 3, Can: 2, Magic: true, Pfc: true, Acfc: true, MaxNaks: 2}},
		{proto: api.ProtoLcp, auto: api.AutoConf{Restart: 1, MaxConf: 1, MaxTerm: 1}, lcp: api.LcpConf{
			Auth: api.AuthPap, Takes: 1, Can: 3, Magic: true, MaxNaks: 10}},
		{proto: api.ProtoIpcp, auto: anAuto(), ipcp: api.IpcpConf{MaxNaks: 1}},
		{proto: api.ProtoIpcp, auto: api.AutoConf{Restart: 3, MaxConf: 1, MaxTerm: 2}, ipcp: api.IpcpConf{
			Addr: 0x0a000001, Peer: 0x0a000009, Dns1: 0x0a000035, WantDns: true, MaxNaks: 2}},
	}
}

func (k kind) String() string {
	if k.proto == api.ProtoLcp {
		return fmt.Sprintf("LCP %+v", k.lcp)
	}
	return fmt.Sprintf("IPCP %+v", k.ipcp)
}

// make is a new side of the kind, and its model.
func (k kind) make(t *testing.T, draw uint32) (*Side, *model) {
	t.Helper()
	m := &model{proto: k.proto, mru: 1500, last: -1}
	m.auto, _ = auto.New(k.auto)
	var s *Side
	var e api.Errno
	if k.proto == api.ProtoLcp {
		m.lcp, _ = lcppol.New(k.lcp, draw)
		s, e = Lcp(k.auto, k.lcp, draw)
	} else {
		m.ipcp, _ = ipcppol.New(k.ipcp)
		s, e = Ipcp(k.auto, k.ipcp)
	}
	if e != api.OK || s == nil {
		t.Fatalf("%v: %v, %d", k, s, e)
	}
	if wrong := agree(s, m); wrong != "" {
		t.Fatalf("%v: new: %s", k, wrong)
	}
	return s, m
}

// good is a request that the model's policy takes, and ack is the Ack of its own.
func (m *model) good() api.Packet {
	if m.ipcp != nil {
		c := m.ipcp.Copy()
		if code, answer := c.Judge(); code == api.ConfNak {
			return api.Packet{Code: api.ConfReq, Id: 33, Data: bytesOf(answer...)}
		}
	}
	return api.Packet{Code: api.ConfReq, Id: 33}
}

func (m *model) ack() api.Packet {
	return api.Packet{Code: api.ConfAck, Id: uint8(m.last), Data: bytesOf(m.request()...)}
}

// ways are, for each state, some ways that lead there from the beginning.
func ways() [][]string {
	return [][]string{
		api.StInitial:  {"", "open up close down"},
		api.StStarting: {"open", "open up ack good down"},
		api.StClosed:   {"up", "up open ack close term", "open up close tick tick tick tick"},
		api.StStopped:  {"open up tick tick tick tick", "up open good ack end term", "open up ack good coderej term"},
		api.StClosing:  {"open up close", "open up good ack close"},
		api.StStopping: {"up open good ack end", "open up ack good coderej"},
		api.StReqSent:  {"open up", "up open nak", "open up ack good ack"},
		api.StAckRcvd:  {"open up ack"},
		api.StAckSent:  {"open up good", "open up tick tick tick tick good"},
		api.StOpened:   {"open up ack good", "open up good ack", "up open good ack end term good ack"},
	}
}

// word is the step that a word of a way means.
func (m *model) word(w string, draw uint32) step {
	switch w {
	case "up":
		return event(api.EvUp, draw)
	case "down":
		return event(api.EvDown, draw)
	case "open":
		return event(api.EvOpen, draw)
	case "close":
		return event(api.EvClose, draw)
	case "tick":
		return tick(draw)
	case "good":
		return arrives(m.good(), draw)
	case "ack":
		return arrives(m.ack(), draw)
	case "nak":
		return arrives(api.Packet{Code: api.ConfNak, Id: uint8(m.last), Data: bytesOf(magic(draw), addr(draw))}, draw)
	case "end":
		return arrives(api.Packet{Code: api.TermReq, Id: 77, Data: "bye"}, draw)
	case "term":
		return arrives(api.Packet{Code: api.TermAck, Id: 78}, draw)
	}
	return arrives(api.Packet{Code: api.CodeRej, Id: 79, Data: "\x01\x01\x00\x04"}, draw)
}

// lead is a side, and its model, led along a way.
func (k kind) lead(t *testing.T, way string) (*Side, *model) {
	t.Helper()
	s, m := k.make(t, 1000)
	for i, w := range strings.Fields(way) {
		if _, wrong := both(s, m, m.word(w, uint32(2000+i))); wrong != "" {
			t.Fatalf("%v: %q: at %q: %s", k, way, w, wrong)
		}
	}
	return s, m
}

// eachPlace goes to every state of every kind by every way, as far as that leads there.
func eachPlace(t *testing.T, visit func(t *testing.T, k kind, state uint8, way string)) {
	for _, k := range kinds() {
		for state, l := range ways() {
			been := false
			for _, way := range l {
				if _, m := k.lead(t, way); !m.in(uint8(state)) {
					continue
				}
				been = true
				visit(t, k, uint8(state), way)
			}
			if !been {
				t.Errorf("%v: no way leads to %d", k, state)
			}
		}
	}
}

// long is more than any packet has; longest is a request's data, but for the last byte.
var (
	long    = strings.Repeat("l", 1600)
	longest = bytesOf(slices.Repeat([]api.Opt{{Type: 200, Data: long[:253]}}, 5)...) + "\xc9\xdd" + long[:218]
)

// requests are datas of requests of every kind.
func requests(m *model) []string {
	own := uint32(0)
	if m.lcp != nil {
		own = m.lcp.Wish().Magic
	}
	return []string{
		m.good().Data,
		"",
		bytesOf(mru(1500)),
		bytesOf(mru(10), pap()),
		bytesOf(magic(own)),
		bytesOf(magic(6001)),
		bytesOf(pap(), magic(12345)),
		bytesOf(chap()),
		bytesOf(addr(0x0a000009)),
		bytesOf(addr(0x0a000008)),
		bytesOf(addr(0)),
		bytesOf(api.Opt{Type: 99, Data: "x"}, mru(1400)),
		strings.Repeat("\xc8\x02", 64),
		strings.Repeat("\xc8\x02", 65),
		"\x01",
		"\x01\x04\x05",
		"\x01\x01",
		longest + "z",
		longest + "zz",
		strings.Repeat("\xc8\xff"+long[:253], 6),
	}
}

// replies are datas of replies of every kind.
func replies(m *model) []string {
	l := m.request()
	datas := []string{
		bytesOf(l...),
		"",
		bytesOf(mru(1300), magic(1)),
		bytesOf(pap()),
		bytesOf(addr(0x0a000077)),
		bytesOf(addr(1), addr(2)),
		bytesOf(magic(1), magic(2)),
		bytesOf(api.Opt{Type: 99}),
		"\x05\x06\x00",
		"\x03",
	}
	if len(l) > 0 {
		datas = append(datas, bytesOf(l[:1]...), bytesOf(l[1:]...), bytesOf(l...)+"\x00")
	}
	if len(l) > 1 {
		swapped := slices.Clone(l)
		swapped[0], swapped[1] = swapped[1], swapped[0]
		datas = append(datas, bytesOf(swapped...))
	}
	return datas
}

// packets are packets of every kind, some of which fit what the model is doing.
func packets(m *model) []api.Packet {
	var l []api.Packet
	add := func(code, id uint8, datas ...string) {
		for _, d := range datas {
			l = append(l, api.Packet{Code: code, Id: id, Data: d})
		}
	}
	add(api.ConfReq, 33, requests(m)...)
	for code := uint8(api.ConfAck); code <= api.ConfRej; code++ {
		add(code, uint8(m.last), replies(m)...)
		add(code, uint8(m.last)+1, replies(m)[:3]...)
		add(code, 0, replies(m)[:1]...)
	}
	add(api.TermReq, 7, "", "bye", long)
	add(api.TermAck, uint8(m.counter), "")
	add(api.TermAck, 9, "ok", long)
	for _, code := range []string{"\x00", "\x01", "\x04", "\x07", "\x08", "\x0b", "\x63", "\xff"} {
		add(api.CodeRej, 4, code+"\x01\x00\x04")
	}
	add(api.CodeRej, 4, "", "\x01\x01\x00", "\x01\x01\x00\x00more", "\x08"+long)
	add(api.ProtoRej, 5, "", "\xc0", "\xc0\x21", "\xc0\x21x", "\x80\x21", "\x80\x21xyz", "\x00\x00", "\x21\xc0", "\xc2\x23"+long)
	for _, code := range []uint8{api.EchoReq, api.EchoRep, api.Discard} {
		add(code, 6, "", "abc", "abcd", "abcdefgh", long[:1496], long[:1497])
	}
	for _, code := range []uint8{0, 12, 99, 255} {
		add(code, 8, "", "ab", long[:60], long[:1495], long[:1496], long[:1497])
	}
	return l
}

// steps are steps of every kind.
func steps(m *model, draw uint32) []step {
	var l []step
	for ev := range uint8(api.FsmEvs + 1) {
		l = append(l, event(ev, draw))
	}
	for _, p := range packets(m) {
		l = append(l, arrives(p, draw))
	}
	l = append(l, tick(draw))
	for _, n := range []int{0, 1, 58, 59, 1489, 1490, 1494, 1495, 1500} {
		l = append(l, protocol(0x0057, long[:n]))
	}
	for _, n := range []int{math.MinInt, -1, 0, 63, 64, 1499, 1500, 1501, 65535, 65536, math.MaxInt} {
		l = append(l, takesUpTo(n))
	}
	return l
}

// TestP16_2Steps: from every state, two steps of any kind do what the chapter says.
func TestP16_2Steps(t *testing.T) {
	eachPlace(t, func(t *testing.T, k kind, state uint8, way string) {
		t.Run(fmt.Sprintf("%04x/%d/%s", k.proto, state, way), func(t *testing.T) {
			t.Parallel()
			s, m := k.lead(t, way)
			for _, x := range steps(m, 6001) {
				s1, m1 := s.Copy(), m.copy()
				if _, wrong := both(s1, m1, x); wrong != "" {
					t.Fatalf("%v: %q: %v: %s", k, way, x, wrong)
				}
				for i, y := range steps(m1, 7001) {
					// Of the second steps each is there behind some of the first ones.
					if (i+len(x.p.Data)+int(x.p.Code))%9 != 0 {
						continue
					}
					s2, m2 := s1.Copy(), m1.copy()
					if _, wrong := both(s2, m2, y); wrong != "" {
						t.Fatalf("%v: %q: %v: %v: %s", k, way, x, y, wrong)
					}
				}
			}
			// Nothing of all that was done to copies is to be seen.
			if wrong := agree(s, m); wrong != "" {
				t.Fatalf("%v: %q: %s", k, way, wrong)
			}
		})
	})
}

// TestP16_2Codes: every code, with every identifier that may matter, from every state.
func TestP16_2Codes(t *testing.T) {
	eachPlace(t, func(t *testing.T, k kind, state uint8, way string) {
		s, m := k.lead(t, way)
		for code := range 256 {
			for _, id := range []uint8{0, uint8(m.last), uint8(m.last) + 1, uint8(m.counter), 255} {
				for _, data := range []string{"", "abcd", bytesOf(m.request()...), "\xc0\x21\x00\x00"} {
					x := arrives(api.Packet{Code: uint8(code), Id: id, Data: data}, 5)
					if _, wrong := both(s.Copy(), m.copy(), x); wrong != "" {
						t.Fatalf("%v: %q: %v: %s", k, way, x, wrong)
					}
				}
			}
		}
	})
}

// TestP16_2Walks: long random rows of steps; what is common comes often.
func TestP16_2Walks(t *testing.T) {
	for i, k := range kinds() {
		t.Run(fmt.Sprintf("%04x/%d", k.proto, i), func(t *testing.T) {
			t.Parallel()
			r := rand.New(rand.NewSource(int64(i + 1)))
			words := []string{"up", "open", "good", "ack", "nak", "tick", "tick", "tick", "down", "close", "end", "term", "coderej"}
			seen := map[uint8]int{}
			for range 60 {
				s, m := k.make(t, r.Uint32())
				for at := range 250 {
					draw := uint32(r.Intn(3)) * r.Uint32()
					x := m.word(words[r.Intn(len(words))], draw)
					switch r.Intn(4) {
					case 0:
						l := steps(m, draw)
						x = l[r.Intn(len(l))]
					case 1:
						x = m.word(words[r.Intn(4)], draw)
					}
					if _, wrong := both(s, m, x); wrong != "" {
						t.Fatalf("%v: at %d: %v: %s", k, at, x, wrong)
					}
					seen[s.State()]++
					if s.State() == api.StOpened && (s.Lcp().Wish() != s.Lcp().Mine() || s.Ipcp().Wish() != s.Ipcp().Mine()) {
						t.Fatalf("%v: Opened with other wishes than were acked", k)
					}
				}
			}
			if len(seen) != api.States {
				t.Errorf("%v: only these states: %v", k, seen)
			}
		})
	}
}

// must is a step that must come to this.
func must(t *testing.T, s *Side, x step, want api.Out) {
	t.Helper()
	got, e := x.does(s)
	if e != api.OK || !sameOut(got, want) {
		t.Errorf("%v: %+v, %d; not %+v", x, got, e, want)
	}
}

// sent is an outcome of these packets alone.
func sent(l ...api.Packet) api.Out { return api.Out{Pkts: l} }

func pkt(code, id uint8, data string) api.Packet { return api.Packet{Code: code, Id: id, Data: data} }

// TestP16_2Example: the chapter's.
func TestP16_2Example(t *testing.T) {
	s, _ := Ipcp(anAuto(), api.IpcpConf{MaxNaks: 3})
	must(t, s, event(api.EvOpen, 1), api.Out{Acts: api.ActTls})
	must(t, s, event(api.EvUp, 1), sent(pkt(api.ConfReq, 1, "\x03\x06\x00\x00\x00\x00")))
	must(t, s, arrives(pkt(api.TermReq, 7, ""), 1), sent(pkt(api.TermAck, 7, "")))
	must(t, s, arrives(pkt(99, 3, "ab"), 1), sent(pkt(api.CodeRej, 2, "\x63\x03\x00\x06ab")))
}

// lcpConf is one by which much is wished for.
func lcpConf() api.LcpConf {
	return api.LcpConf{Mru: 1400, Auth: api.AuthChap, Takes: 3, Can: 1, Magic: true, MaxNaks: 2}
}

// askedBy is the data of a request by lcpConf with this magic number.
func askedBy(auth api.Opt, n uint32) string { return bytesOf(mru(1400), auth, magic(n)) }

// TestP16_2Negotiation: a row of LCP, written out.
func TestP16_2Negotiation(t *testing.T) {
	s, _ := Lcp(anAuto(), lcpConf(), 11)
	must(t, s, event(api.EvUp, 12), api.Out{})
	must(t, s, event(api.EvOpen, 13), sent(pkt(1, 1, askedBy(chap(), 13))))
	// Bad requests, in ReqSent.
	must(t, s, arrives(pkt(1, 200, bytesOf(mru(10), magic(13))), 14), sent(pkt(3, 200, bytesOf(mru(64), magic(^uint32(13))))))
	must(t, s, arrives(pkt(1, 201, bytesOf(mru(10), api.Opt{Type: 4})), 14), sent(pkt(4, 201, "\x04\x02")))
	// Replies to another request, and none of the request, are no replies.
	must(t, s, arrives(pkt(2, 0, askedBy(chap(), 13)), 15), api.Out{})
	must(t, s, arrives(pkt(2, 1, askedBy(pap(), 13)), 15), api.Out{})
	must(t, s, arrives(pkt(3, 2, bytesOf(pap())), 15), api.Out{})
	must(t, s, arrives(pkt(3, 1, ""), 15), api.Out{})
	must(t, s, arrives(pkt(4, 1, bytesOf(pap())), 15), api.Out{})
	must(t, s, arrives(pkt(4, 1, "\x03"), 15), api.Out{})
	// A Nak, with the draw as the next magic number.
	must(t, s, arrives(pkt(3, 1, bytesOf(pap(), magic(3))), 16), sent(pkt(1, 2, askedBy(pap(), 16))))
	must(t, s, arrives(pkt(2, 1, askedBy(pap(), 16)), 17), api.Out{})
	// A Reject.
	must(t, s, arrives(pkt(4, 2, bytesOf(mru(1400))), 17), sent(pkt(1, 3, bytesOf(pap(), magic(16)))))
	must(t, s, arrives(pkt(2, 3, bytesOf(pap(), magic(16))), 18), api.Out{})
	if s.State() != api.StAckRcvd || s.Left() != 2 {
		t.Error(s.State(), s.Left())
	}
	// What comes in AckRcvd is an event, but changes no wishes.
	c := s.Copy()
	must(t, c, arrives(pkt(3, 3, bytesOf(chap(), magic(16))), 19), sent(pkt(1, 4, bytesOf(pap(), magic(16)))))
	c = s.Copy()
	must(t, c, arrives(pkt(4, 3, bytesOf(pap())), 19), sent(pkt(1, 4, bytesOf(pap(), magic(16)))))
	if c.Lcp().Bad() {
		t.Error("it was not waited for that Reject")
	}
	// A good request, in AckRcvd.
	must(t, s, arrives(pkt(1, 202, bytesOf(mru(1500), pap())), 20), api.Out{
		Pkts: []api.Packet{pkt(2, 202, bytesOf(mru(1500), pap()))}, Acts: api.ActTlu})
	if s.State() != api.StOpened || s.Left() != 0 {
		t.Error(s.State(), s.Left())
	}
	if p := s.Lcp(); p.Mine() != (api.Lcp{Auth: api.AuthPap, HasMagic: true, Magic: 16}) ||
		p.Peer() != (api.Lcp{HasMru: true, Mru: 1500, Auth: api.AuthPap}) || p.Loops() != 1 {
		t.Errorf("%+v", p)
	}
	// In Opened a request of the peer begins all again, without another magic
	// number: the own request goes ahead of the answer.
	c = s.Copy()
	must(t, c, arrives(pkt(1, 203, ""), 21), api.Out{
		Pkts: []api.Packet{pkt(1, 4, bytesOf(pap(), magic(16))), pkt(2, 203, "")}, Acts: api.ActTld})
	c = s.Copy()
	must(t, c, arrives(pkt(1, 203, bytesOf(chap())), 21), api.Out{
		Pkts: []api.Packet{pkt(1, 4, bytesOf(pap(), magic(16))), pkt(3, 203, bytesOf(pap()))}, Acts: api.ActTld})
	// So does a reply that comes once more.
	c = s.Copy()
	must(t, c, arrives(pkt(3, 3, bytesOf(chap(), magic(16))), 21), api.Out{
		Pkts: []api.Packet{pkt(1, 4, bytesOf(pap(), magic(16)))}, Acts: api.ActTld})
	// And the end.
	must(t, s, event(api.EvClose, 22), api.Out{Pkts: []api.Packet{pkt(5, 4, "")}, Acts: api.ActTld})
	must(t, s, tick(23), api.Out{})
	must(t, s, tick(24), sent(pkt(5, 5, "")))
	must(t, s, arrives(pkt(1, 204, bytesOf(mru(10))), 25), api.Out{})
	must(t, s, arrives(pkt(6, 99, ""), 26), api.Out{Acts: api.ActTlf})
	must(t, s, arrives(pkt(1, 205, bytesOf(mru(10))), 27), sent(pkt(6, 205, "")))
	must(t, s, arrives(pkt(1, 206, "\x01"), 27), api.Out{})
	must(t, s, event(api.EvDown, 28), api.Out{})
	if s.State() != api.StInitial {
		t.Error(s.State())
	}
}

// TestP16_2Restart: the negotiation begins anew where requests are sent behind
// none, and nowhere else.
func TestP16_2Restart(t *testing.T) {
	conf := api.AutoConf{Restart: 1, MaxConf: 2, MaxTerm: 1}
	// Wishes that were given up come back, with the draw of that event.
	spoil := func(s *Side) {
		t.Helper()
		id := s.has.last
		must(t, s, arrives(pkt(4, id, bytesOf(mru(1400), chap())), 30), sent(pkt(1, id+1, bytesOf(magic(s.Lcp().Wish().Magic)))))
		if !s.Lcp().Bad() {
			t.Error("not bad")
		}
	}
	s, _ := Lcp(conf, lcpConf(), 1)
	if s.Lcp().Wish().Magic != 1 {
		t.Error(s.Lcp().Wish())
	}
	must(t, s, event(api.EvOpen, 2), api.Out{Acts: api.ActTls})
	if s.Lcp().Wish().Magic != 1 {
		t.Error("Open in Initial", s.Lcp().Wish())
	}
	// Up, in Starting.
	must(t, s, event(api.EvUp, 3), sent(pkt(1, 1, askedBy(chap(), 3))))
	spoil(s)
	must(t, s, tick(4), sent(pkt(1, 3, bytesOf(magic(3)))))
	must(t, s, event(api.EvDown, 5), api.Out{})
	if !s.Lcp().Bad() || s.Lcp().Wish().Magic != 3 {
		t.Error("Down", s.Lcp())
	}
	must(t, s, event(api.EvUp, 0), sent(pkt(1, 4, askedBy(chap(), 1))))
	// Close and Open, by way of Closed.
	spoil(s)
	must(t, s, event(api.EvClose, 7), sent(pkt(5, 6, "")))
	must(t, s, tick(8), api.Out{Acts: api.ActTlf})
	if s.State() != api.StClosed || !s.Lcp().Bad() {
		t.Error("Closed", s.Lcp())
	}
	must(t, s, event(api.EvOpen, 10), sent(pkt(1, 7, askedBy(chap(), 10))))
	// A request, in Stopped: also before that is evaluated.
	spoil(s)
	must(t, s, tick(11), sent(pkt(1, 9, bytesOf(magic(10)))))
	must(t, s, tick(12), api.Out{Acts: api.ActTlf})
	must(t, s, event(api.EvOpen, 13), api.Out{})
	if s.State() != api.StStopped || !s.Lcp().Bad() {
		t.Error("Stopped", s.Lcp())
	}
	must(t, s, arrives(pkt(1, 50, "\x05"), 14), api.Out{})
	if !s.Lcp().Bad() {
		t.Error("what is no request begins nothing anew")
	}
	c := s.Copy()
	must(t, c, arrives(pkt(1, 50, bytesOf(magic(10))), 15), sent(pkt(1, 10, askedBy(chap(), 15)), pkt(2, 50, bytesOf(magic(10)))))
	if c.State() != api.StAckSent || c.Lcp().Peer().Magic != 10 || c.Lcp().Loops() != 0 {
		t.Error(c.State(), c.Lcp())
	}
	must(t, s, arrives(pkt(1, 50, bytesOf(magic(15))), 15), sent(pkt(1, 10, askedBy(chap(), 15)), pkt(3, 50, bytesOf(magic(^uint32(15))))))
	if s.State() != api.StReqSent || s.Lcp().Loops() != 1 || s.Lcp().Bad() {
		t.Error(s.State(), s.Lcp())
	}
}

// opened is a side of LCP by lcpConf in Opened, whose counter is 1 and whose magic number is 3.
func opened(t *testing.T) *Side {
	t.Helper()
	s, _ := Lcp(anAuto(), lcpConf(), 1)
	s.Event(api.EvOpen, 2)
	must(t, s, event(api.EvUp, 3), sent(pkt(1, 1, askedBy(chap(), 3))))
	must(t, s, arrives(pkt(1, 20, ""), 4), sent(pkt(2, 20, "")))
	must(t, s, arrives(pkt(2, 1, askedBy(chap(), 3)), 5), api.Out{Acts: api.ActTlu})
	return s
}

// TestP16_2Echoes: an Echo-Request is answered in Opened, an Echo-Reply is told.
func TestP16_2Echoes(t *testing.T) {
	s := opened(t)
	must(t, s, arrives(pkt(9, 60, "wxyzhello"), 1), sent(pkt(10, 60, "\x00\x00\x00\x03hello")))
	must(t, s, arrives(pkt(9, 61, "wxyz"), 1), sent(pkt(10, 61, "\x00\x00\x00\x03")))
	must(t, s, arrives(pkt(9, 61, "wxy"), 1), api.Out{})
	must(t, s, arrives(pkt(9, 61, strings.Repeat("w", 1496)), 1), sent(pkt(10, 61, "\x00\x00\x00\x03"+strings.Repeat("w", 1492))))
	must(t, s, arrives(pkt(9, 61, strings.Repeat("w", 1497)), 1), api.Out{})
	must(t, s, arrives(pkt(10, 62, "wxyz"), 1), api.Out{Echo: true})
	must(t, s, arrives(pkt(10, 62, "wxy"), 1), api.Out{})
	must(t, s, arrives(pkt(11, 63, "wxyzhello"), 1), api.Out{})
	must(t, s, event(api.EvClose, 1), api.Out{Acts: api.ActTld, Pkts: []api.Packet{pkt(5, 2, "")}})
	must(t, s, arrives(pkt(9, 60, "wxyzhello"), 1), api.Out{})
	must(t, s, arrives(pkt(10, 62, "wxyz"), 1), api.Out{})
	// Without a magic number, it is 0.
	s, _ = Lcp(anAuto(), api.LcpConf{MaxNaks: 1}, 9)
	s.Event(api.EvOpen, 2)
	s.Event(api.EvUp, 3)
	s.Packet(pkt(2, 1, ""), 3)
	s.Packet(pkt(1, 1, ""), 3)
	must(t, s, arrives(pkt(9, 60, "wxyzhello"), 1), sent(pkt(10, 60, "\x00\x00\x00\x00hello")))
	// IPCP has no echoes.
	p, _ := Ipcp(anAuto(), api.IpcpConf{MaxNaks: 1})
	p.Event(api.EvUp, 2)
	must(t, p, arrives(pkt(9, 60, "wxyz"), 1), sent(pkt(7, 1, "\x09\x3c\x00\x08wxyz")))
	must(t, p, arrives(pkt(8, 61, "wx"), 1), sent(pkt(7, 2, "\x08\x3d\x00\x06wx")))
}

// TestP16_2Rejects: what the peer rejects, and what it is told of.
func TestP16_2Rejects(t *testing.T) {
	s := opened(t)
	must(t, s, arrives(pkt(8, 1, "\x80\x21abc"), 1), api.Out{Proto: api.ProtoIpcp})
	must(t, s, arrives(pkt(8, 1, "\xc2\x23"), 1), api.Out{Proto: api.ProtoChap})
	must(t, s, arrives(pkt(8, 1, "\xc2"), 1), api.Out{})
	must(t, s, arrives(pkt(7, 1, "\x0c\x01\x00\x04"), 1), api.Out{})
	must(t, s, arrives(pkt(7, 1, "\x01\x01\x00"), 1), api.Out{})
	must(t, s, arrives(pkt(7, 1, "\x08\x01\x00\x04"), 1), api.Out{})
	end := api.Out{Acts: api.ActTld, Pkts: []api.Packet{pkt(5, 2, "")}}
	for code := byte(1); code <= 7; code++ {
		must(t, s.Copy(), arrives(pkt(7, 1, string([]byte{code, 1, 0, 4})), 1), end)
	}
	c := s.Copy()
	must(t, c, arrives(pkt(8, 1, "\xc0\x21"), 1), end)
	if c.State() != api.StStopping {
		t.Error(c.State())
	}
	must(t, c, arrives(pkt(8, 1, "\x80\x21"), 1), api.Out{})
	// A Protocol-Reject of its own.
	must(t, s, protocol(0x0057, "hello"), sent(pkt(8, 2, "\x00\x57hello")))
	must(t, s, protocol(0x0057, ""), sent(pkt(8, 3, "\x00\x57")))
	// A packet too long to be rejected takes a number all the same.
	must(t, s, arrives(pkt(99, 9, strings.Repeat("x", 1497)), 1), api.Out{})
	must(t, s, protocol(0x0057, "hello"), sent(pkt(8, 5, "\x00\x57hello")))
	must(t, s, arrives(pkt(99, 9, ""), 1), sent(pkt(7, 6, "\x63\x09\x00\x04")))
	// Nothing else does.
	s.Packet(pkt(9, 9, strings.Repeat("x", 1497)), 1)
	s.Packet(pkt(5, 9, ""), 1)
	must(t, s, protocol(0x0057, "hello"), api.Out{})
	must(t, s, arrives(pkt(12, 9, ""), 1), sent(pkt(7, 7, "\x0c\x09\x00\x04")))
}

// TestP16_2Counter: identifiers go on from 255 to 0, for all packets sent unasked.
func TestP16_2Counter(t *testing.T) {
	s := opened(t)
	id := uint8(1)
	for range 600 {
		id++
		must(t, s, protocol(0x0057, ""), sent(pkt(8, id, "\x00\x57")))
		id++
		must(t, s, arrives(pkt(0, 5, ""), 1), sent(pkt(7, id, "\x00\x05\x00\x04")))
	}
	// A reply to the request of 1200 packets ago is still one to the last request.
	must(t, s, arrives(pkt(2, 1, askedBy(chap(), 3)), 1), api.Out{Acts: api.ActTld, Pkts: []api.Packet{pkt(1, id+1, askedBy(chap(), 3))}})
	// Before there was a request, none is answered, not even one of 0.
	s, _ = Lcp(anAuto(), api.LcpConf{MaxNaks: 1}, 1)
	s.Event(api.EvUp, 1)
	must(t, s, arrives(pkt(2, 0, ""), 1), api.Out{})
	s.Event(api.EvOpen, 1)
	s.Event(api.EvClose, 1)
	s.Packet(pkt(6, 0, ""), 1)
	if s.State() != api.StClosed {
		t.Fatal(s.State())
	}
	must(t, s, arrives(pkt(2, 1, ""), 1), sent(pkt(6, 1, "")))
	must(t, s, arrives(pkt(2, 2, ""), 1), api.Out{})
}

// TestP16_2Errors: what may not be, and in which order.
func TestP16_2Errors(t *testing.T) {
	eachPlace(t, func(t *testing.T, k kind, state uint8, way string) {
		for ev := range 256 {
			s, _ := k.lead(t, way)
			_, _, never := fsm.Next(state, uint8(ev))
			want := never
			if ev > api.EvClose {
				want = api.ErrArg
			}
			before := s.Copy()
			out, e := s.Event(uint8(ev), 5)
			if e != want {
				t.Errorf("%v: %q: event %d: %d, not %d", k, way, ev, e, want)
			}
			if e != api.OK && (!reflect.DeepEqual(out, api.Out{}) || !reflect.DeepEqual(s, before)) {
				t.Errorf("%v: %q: event %d: %+v with %d", k, way, ev, out, e)
			}
		}
		s, _ := k.lead(t, way)
		before := s.Copy()
		out, e := s.Reject(0x0057, "x")
		switch {
		case k.proto == api.ProtoIpcp:
			if e != api.ErrArg || len(out.Pkts) != 0 {
				t.Errorf("%v: %q: Reject: %+v, %d", k, way, out, e)
			}
		case state != api.StOpened:
			if e != api.OK || !reflect.DeepEqual(out, api.Out{}) || !reflect.DeepEqual(s, before) {
				t.Errorf("%v: %q: Reject: %+v, %d", k, way, out, e)
			}
		}
	})
	var s *Side
	for ev := range 256 {
		if out, e := s.Event(uint8(ev), 1); e != api.ErrNil || !reflect.DeepEqual(out, api.Out{}) {
			t.Error("nil: event", ev, out, e)
		}
	}
	if out, e := s.Packet(api.Packet{Code: 9, Data: "abcd"}, 1); e != api.ErrNil || !reflect.DeepEqual(out, api.Out{}) {
		t.Error("nil: packet", out, e)
	}
	if out, e := s.Tick(1); e != api.ErrNil || !reflect.DeepEqual(out, api.Out{}) {
		t.Error("nil: tick", out, e)
	}
	if out, e := s.Reject(1, "x"); e != api.ErrNil || !reflect.DeepEqual(out, api.Out{}) {
		t.Error("nil: reject", out, e)
	}
	if e := s.SetMru(1); e != api.ErrNil {
		t.Error("nil: mru", e)
	}
}

// TestP16_2Valid: whatever is received, what is sent can be encoded, and the
// options of what is sent can be read.
func TestP16_2Valid(t *testing.T) {
	for i, k := range kinds() {
		r := rand.New(rand.NewSource(int64(50 + i)))
		s, m := k.make(t, 1)
		for range 4000 {
			l := steps(m, r.Uint32())
			x := l[r.Intn(len(l))]
			if r.Intn(2) == 0 {
				x = m.word([]string{"open", "up", "good", "ack"}[r.Intn(4)], r.Uint32())
			}
			out, wrong := both(s, m, x)
			if wrong != "" {
				t.Fatalf("%v: %v: %s", k, x, wrong)
			}
			for _, p := range out.Pkts {
				if len(p.Data) > api.MaxData || p.Code < api.ConfReq || p.Code > api.EchoRep {
					t.Fatalf("%v: %v: sent %v", k, x, p)
				}
				if _, is := optionsOf(p.Data); p.Code <= api.ConfRej && !is {
					t.Fatalf("%v: %v: sent %v", k, x, p)
				}
			}
		}
	}
}

// TestP16_1Made: a side is made of what an automaton, and a policy, can be made of.
func TestP16_1Made(t *testing.T) {
	goods := []api.AutoConf{{Restart: 1, MaxConf: 1, MaxTerm: 1}, {Restart: 1000, MaxConf: 20, MaxTerm: 20}}
	bads := []api.AutoConf{
		{}, {Restart: 0, MaxConf: 1, MaxTerm: 1}, {Restart: 1, MaxConf: 0, MaxTerm: 1}, {Restart: 1, MaxConf: 1, MaxTerm: 0},
		{Restart: 1001, MaxConf: 1, MaxTerm: 1}, {Restart: 1, MaxConf: 21, MaxTerm: 1}, {Restart: 1, MaxConf: 1, MaxTerm: 21},
		{Restart: -1, MaxConf: math.MinInt, MaxTerm: math.MaxInt},
	}
	lcps := map[api.LcpConf]bool{
		{MaxNaks: 1}: true, {MaxNaks: 10, Mru: 64, Magic: true}: true, lcpConf(): true,
		{}: false, {MaxNaks: 11}: false, {MaxNaks: 1, Mru: 63}: false, {MaxNaks: 1, Accm: 1}: false,
		{MaxNaks: 1, Auth: 3, Takes: 3}: false, {MaxNaks: 1, Auth: 1, Takes: 2}: false, {MaxNaks: 1, Can: 4}: false,
	}
	ipcps := map[api.IpcpConf]bool{
		{MaxNaks: 1}: true, {MaxNaks: 10, Addr: 1, Peer: 2, WantDns: true}: true,
		{}: false, {MaxNaks: 11}: false, {MaxNaks: -1}: false,
	}
	check := func(what any, s *Side, e api.Errno, good bool) {
		t.Helper()
		if good != (e == api.OK) || good != (s != nil) || !good && e != api.ErrArg {
			t.Errorf("%+v: %v, %d", what, s, e)
		}
		if good && (s.State() != api.StInitial || s.Left() != 0) {
			t.Errorf("%+v: %d, %d", what, s.State(), s.Left())
		}
	}
	for i, a := range append(goods, bads...) {
		for c, good := range lcps {
			for _, draw := range []uint32{0, 1, 77, math.MaxUint32} {
				s, e := Lcp(a, c, draw)
				check([]any{a, c}, s, e, good && i < len(goods))
				if p, _ := lcppol.New(c, draw); s != nil && (!reflect.DeepEqual(s.Lcp(), p) || s.Ipcp() != nil) {
					t.Errorf("%+v: policies %+v, %+v", c, s.Lcp(), s.Ipcp())
				}
			}
		}
		for c, good := range ipcps {
			s, e := Ipcp(a, c)
			check([]any{a, c}, s, e, good && i < len(goods))
			if p, _ := ipcppol.New(c); s != nil && (!reflect.DeepEqual(s.Ipcp(), p) || s.Lcp() != nil) {
				t.Errorf("%+v: policies %+v, %+v", c, s.Lcp(), s.Ipcp())
			}
		}
	}
}

// TestP16_1SetMru: its range, and what it is for.
func TestP16_1SetMru(t *testing.T) {
	long := pkt(99, 9, strings.Repeat("x", api.MaxData))
	size := func(s *Side) [2]int {
		a, _ := s.Packet(long, 1)
		b, _ := s.Reject(0x0057, strings.Repeat("x", 2000))
		return [2]int{len(a.Pkts[0].Data) + 4, len(b.Pkts[0].Data) + 4}
	}
	s := opened(t)
	if size(s) != [2]int{1500, 1500} {
		t.Error("at first", size(s))
	}
	for n := -3; n <= 66000; n++ {
		e := s.SetMru(n)
		if (e == api.OK) != (n >= 64 && n <= 65535) || e != api.OK && e != api.ErrArg {
			t.Fatal(n, e)
		}
		if n%97 != 0 && (n < 60 || n > 70) && (n < 1490 || n > 1510) && (n < 65530 || n > 65540) {
			continue
		}
		want := min(max(n, 64), 1500)
		if n < 64 {
			want = 1500 // what was there before stays
		}
		if size(s) != [2]int{want, want} {
			t.Fatal(n, size(s), want)
		}
	}
	for _, n := range []int{math.MinInt, math.MaxInt, 1 << 16, 1<<32 + 100} {
		if e := s.SetMru(n); e != api.ErrArg {
			t.Error(n, e)
		}
	}
	p, _ := Ipcp(anAuto(), api.IpcpConf{MaxNaks: 1})
	p.Event(api.EvUp, 1)
	if e := p.SetMru(64); e != api.OK {
		t.Error(e)
	}
	if out, _ := p.Packet(long, 1); len(out.Pkts) != 1 || len(out.Pkts[0].Data) != 60 {
		t.Error(out)
	}
}

// TestP16_1Copy: a copy, and what it was made of, go on alone.
func TestP16_1Copy(t *testing.T) {
	var none *Side
	if none.Copy() != nil {
		t.Error("nil")
	}
	eachPlace(t, func(t *testing.T, k kind, state uint8, way string) {
		s, m := k.lead(t, way)
		c, n := s.Copy(), m.copy()
		if !reflect.DeepEqual(s, c) || s == c {
			t.Fatalf("%v: %q: not equal", k, way)
		}
		r := rand.New(rand.NewSource(9))
		for range 60 {
			// In turn, each with steps of its own.
			for _, x := range []struct {
				s *Side
				m *model
			}{{s, m}, {c, n}} {
				l := steps(x.m, r.Uint32())
				if _, wrong := both(x.s, x.m, l[r.Intn(len(l))]); wrong != "" {
					t.Fatalf("%v: %q: %s", k, way, wrong)
				}
			}
			if wrong := agree(s, m) + agree(c, n); wrong != "" {
				t.Fatalf("%v: %q: %s", k, way, wrong)
			}
		}
	})
}

// TestP16_3Asked: what can be asked; a policy that is handed out changes nothing.
func TestP16_3Asked(t *testing.T) {
	var none *Side
	if none.State() != 0 || none.Left() != 0 || none.Lcp() != nil || none.Ipcp() != nil {
		t.Error("nil", none.State(), none.Left(), none.Lcp(), none.Ipcp())
	}
	eachPlace(t, func(t *testing.T, k kind, state uint8, way string) {
		s, m := k.lead(t, way)
		if s.State() != state || s.Left() != m.auto.Left() || (s.Left() > 0) != fsm.Timed(state) {
			t.Errorf("%v: %q: %d, %d", k, way, s.State(), s.Left())
		}
		if (s.Lcp() != nil) != (k.proto == api.ProtoLcp) || (s.Ipcp() != nil) != (k.proto == api.ProtoIpcp) {
			t.Errorf("%v: %q: %v, %v", k, way, s.Lcp(), s.Ipcp())
		}
		if p := s.Lcp(); p != nil {
			p.Reset(99)
			p.Judge(mru(1500))
			p.Acked(p.Request()...)
			p.Judge(magic(99))
		}
		if p := s.Ipcp(); p != nil {
			p.Judge(addr(0x0a000009))
			p.Naked(addr(0x0a0000ff))
			p.Acked(p.Request()...)
		}
		if wrong := agree(s, m); wrong != "" {
			t.Errorf("%v: %q: %s", k, way, wrong)
		}
	})
}

// TestP16_3Ticks: the ticks left, tick by tick.
func TestP16_3Ticks(t *testing.T) {
	s, _ := Lcp(api.AutoConf{Restart: 3, MaxConf: 2, MaxTerm: 1}, api.LcpConf{MaxNaks: 1}, 1)
	s.Event(api.EvOpen, 1)
	s.Event(api.EvUp, 1)
	for i, want := range []int{3, 2, 1, 3, 2, 1, 0, 0} {
		if s.Left() != want {
			t.Errorf("at %d: %d, not %d", i, s.Left(), want)
		}
		out, e := s.Tick(1)
		if e != api.OK || (len(out.Pkts) == 1) != (i == 2) || (out.Acts == api.ActTlf) != (i == 5) {
			t.Error(i, out, e)
		}
	}
	if s.State() != api.StStopped {
		t.Error(s.State())
	}
}

// TestP16_2Own: what is answered is memory of its own.
func TestP16_2Own(t *testing.T) {
	s := opened(t)
	a, _ := s.Packet(pkt(1, 9, bytesOf(mru(1500))), 1)
	b := slices.Clone(a.Pkts)
	s.Packet(pkt(1, 10, bytesOf(mru(1400))), 2)
	c, _ := s.Packet(pkt(99, 11, "x"), 3)
	if !slices.Equal(a.Pkts, b) {
		t.Error(a.Pkts, b)
	}
	a.Pkts[0], c.Pkts[0] = api.Packet{}, api.Packet{}
	if d, _ := s.Packet(pkt(99, 11, "x"), 3); len(d.Pkts) != 1 || d.Pkts[0].Code != api.CodeRej {
		t.Error(d)
	}
}

// pair are two sides of LCP, what is on the way to each, and how many each has sent.
type pair struct {
	side  [2]*Side
	way   [2][]api.Packet
	sent  [2]int
	draws uint32
}

// draw is a number of its own for each input: those of one side are even, of the other odd.
func (p *pair) draw(at int) uint32 {
	p.draws += 2
	return p.draws + uint32(at)
}

// comes sends what an outcome of that side has.
func (p *pair) comes(at int, out api.Out) {
	p.way[1-at] = append(p.way[1-at], out.Pkts...)
	p.sent[at] += len(out.Pkts)
}

func (p *pair) copy() *pair {
	c := *p
	for i := range c.side {
		c.side[i] = p.side[i].Copy()
		c.way[i] = slices.Clone(p.way[i])
	}
	return &c
}

// eachOrder delivers what is on the way in every order of both directions, and
// hands over each pair for which nothing is left.
func (p *pair) eachOrder(visit func(p *pair)) {
	done := true
	for at := range p.side {
		if len(p.way[at]) == 0 {
			continue
		}
		done = false
		c := p.copy()
		if c.sent[0] > 20 || c.sent[1] > 20 {
			visit(c)
			return
		}
		got := c.way[at][0]
		c.way[at] = c.way[at][1:]
		out, _ := c.side[at].Packet(got, c.draw(at))
		c.comes(at, out)
		c.eachOrder(visit)
	}
	if done {
		visit(p)
	}
}

// met is what is wrong with two sides behind everything, if anything is.
func (p *pair) met() string {
	a, b := p.side[0], p.side[1]
	switch {
	case a.State() != api.StOpened || b.State() != api.StOpened:
		return fmt.Sprintf("states %d, %d", a.State(), b.State())
	case p.sent[0] > 8 || p.sent[1] > 8:
		return fmt.Sprintf("sent %v", p.sent)
	case a.Lcp().Mine() != b.Lcp().Peer() || b.Lcp().Mine() != a.Lcp().Peer():
		return fmt.Sprintf("%+v is not %+v, or %+v not %+v", a.Lcp().Mine(), b.Lcp().Peer(), b.Lcp().Mine(), a.Lcp().Peer())
	}
	return ""
}

// someConf is any that is valid.
func someConf(r *rand.Rand) api.LcpConf {
	c := api.LcpConf{Can: uint8(r.Intn(4)), Magic: r.Intn(3) > 0, Pfc: r.Intn(2) > 0, Acfc: r.Intn(2) > 0, MaxNaks: 1 + r.Intn(10)}
	c.Mru = []uint16{0, 64, 65, 1400, 1500, 65535}[r.Intn(6)]
	if r.Intn(2) > 0 {
		c.HasAccm, c.Accm = true, r.Uint32()
	}
	if c.Auth = uint8(r.Intn(3)); c.Auth != api.AuthNone {
		c.Takes = c.Auth | uint8(r.Intn(4))
	}
	return c
}

// canDo is whether the one can do what the other demands: the kind that it
// demands first, or another that it would take.
func canDo(one, other api.LcpConf) bool {
	return other.Auth == api.AuthNone || one.Can&other.Takes != 0
}

// TestP16_4Meet: two sides that can do what the other one demands open, in
// whatever order what they send arrives.
func TestP16_4Meet(t *testing.T) {
	r := rand.New(rand.NewSource(4))
	orders, least := 0, 0
	for n := 0; n < 3000; {
		conf := [2]api.LcpConf{someConf(r), someConf(r)}
		if !canDo(conf[0], conf[1]) || !canDo(conf[1], conf[0]) {
			continue
		}
		n++
		p := &pair{draws: 2 * uint32(r.Intn(1000))}
		for at := range p.side {
			p.side[at], _ = Lcp(api.AutoConf{Restart: 5, MaxConf: 1 + r.Intn(3), MaxTerm: 1}, conf[at], p.draw(at))
			p.side[at].Event(api.EvOpen, p.draw(at))
		}
		idle := r.Intn(3) // one that gave up waiting is opened by the other one's request
		for at := range p.side {
			out, _ := p.side[at].Event(api.EvUp, p.draw(at))
			for at == idle && p.side[at].State() != api.StStopped {
				p.side[at].Tick(p.draw(at))
			}
			if at != idle {
				p.comes(at, out)
			}
		}
		p.eachOrder(func(p *pair) {
			orders++
			least = max(least, p.sent[0], p.sent[1])
			if wrong := p.met(); wrong != "" {
				t.Fatalf("%+v, %+v (%d idle): %s", conf[0], conf[1], idle, wrong)
			}
		})
	}
	if orders < 5000 || least < 4 {
		t.Error("too little was tried:", orders, least)
	}
}

// TestP16_4Loop: sides whose magic numbers are the same at first draw others.
func TestP16_4Loop(t *testing.T) {
	c := api.LcpConf{Mru: 1500, Magic: true, MaxNaks: 5}
	p := &pair{draws: 100}
	for at := range p.side {
		p.side[at], _ = Lcp(anAuto(), c, 1)
		p.side[at].Event(api.EvOpen, 7)
		out, _ := p.side[at].Event(api.EvUp, 7)
		p.comes(at, out)
	}
	p.eachOrder(func(p *pair) {
		if wrong := p.met(); wrong != "" {
			t.Fatal(wrong)
		}
		if a, b := p.side[0].Lcp().Mine().Magic, p.side[1].Lcp().Mine().Magic; a == b {
			t.Fatal("the same", a)
		}
	})
	// A looped-back link: a side that hears itself never opens with a magic number.
	s, _ := Lcp(anAuto(), c, 1)
	s.Event(api.EvOpen, 7)
	out, _ := s.Event(api.EvUp, 7)
	way := out.Pkts
	for i := 0; i < 30 && len(way) > 0; i++ {
		out, _ := s.Packet(way[0], uint32(1000+i))
		way = append(way[1:], out.Pkts...)
		if s.State() == api.StOpened && s.Lcp().Mine().HasMagic {
			t.Fatal("opened with itself")
		}
	}
	if s.Lcp().Loops() == 0 {
		t.Error("no loop seen")
	}
}
