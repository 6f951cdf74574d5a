package ipcppol

import (
	"fmt"
	"math"
	"math/rand"
	"slices"
	"testing"

	"halyard/api"
)

// be is the big-endian bytes of an address.
func be(n uint32) string {
	return string([]byte{byte(n >> 24), byte(n >> 16), byte(n >> 8), byte(n)})
}

// Valid options.
func addr(n uint32) api.Opt { return api.Opt{Type: api.OptAddr, Data: be(n)} }
func dns1(n uint32) api.Opt { return api.Opt{Type: api.OptDns1, Data: be(n)} }
func dns2(n uint32) api.Opt { return api.Opt{Type: api.OptDns2, Data: be(n)} }

// number is the address that a valid option says.
func number(o api.Opt) uint32 {
	n := uint32(0)
	for i := range len(o.Data) {
		n = n<<8 | uint32(o.Data[i])
	}
	return n
}

// isKnown is whether the type is one of the three.
func isKnown(t uint8) bool {
	return t == api.OptAddr || t == api.OptDns1 || t == api.OptDns2
}

// isGood is whether an option is valid, by the words of layer 10's chapter.
func isGood(o api.Opt) bool {
	return isKnown(o.Type) && len(o.Data) == 4
}

// listOf is the list of x.
func listOf(x api.Ipcp) []api.Opt {
	var l []api.Opt
	if x.HasAddr {
		l = append(l, addr(x.Addr))
	}
	if x.HasDns1 {
		l = append(l, dns1(x.Dns1))
	}
	if x.HasDns2 {
		l = append(l, dns2(x.Dns2))
	}
	return l
}

// says is what a list of valid options, none twice, specifies.
func says(l []api.Opt) api.Ipcp {
	x := api.Ipcp{}
	for _, o := range l {
		switch o.Type {
		case api.OptAddr:
			x.HasAddr, x.Addr = true, number(o)
		case api.OptDns1:
			x.HasDns1, x.Dns1 = true, number(o)
		case api.OptDns2:
			x.HasDns2, x.Dns2 = true, number(o)
		}
	}
	return x
}

// model is a policy, word by word as the chapter defines it.
type model struct {
	conf             api.IpcpConf
	wish, mine, peer api.Ipcp
	naks             int
}

// modelOf is the model of a policy to which nothing has happened.
func modelOf(c api.IpcpConf) model {
	m := model{conf: c}
	m.wish.HasAddr, m.wish.Addr = true, c.Addr
	if c.WantDns {
		m.wish.HasDns1, m.wish.HasDns2 = true, true
	}
	return m
}

// rejects is whether the option in this place is rejected.
func (m *model) rejects(l []api.Opt, at int) bool {
	o := l[at]
	for _, earlier := range l[:at] {
		if earlier.Type == o.Type {
			return true
		}
	}
	switch {
	case !isKnown(o.Type), !isGood(o):
		return true
	case o.Type == api.OptDns1:
		return m.conf.Dns1 == 0
	case o.Type == api.OptDns2:
		return m.conf.Dns2 == 0
	}
	return number(o) == 0 && m.conf.Peer == 0
}

// suggests is the value that is suggested for an option that is not rejected, if one is.
func (m *model) suggests(o api.Opt) (api.Opt, bool) {
	switch o.Type {
	case api.OptAddr:
		return addr(m.conf.Peer), m.conf.Peer != 0 && number(o) != m.conf.Peer
	case api.OptDns1:
		return dns1(m.conf.Dns1), number(o) != m.conf.Dns1
	}
	return dns2(m.conf.Dns2), number(o) != m.conf.Dns2
}

// misses is whether an address is missing.
func (m *model) misses(l []api.Opt) bool {
	for _, o := range l {
		if o.Type == api.OptAddr {
			return false
		}
	}
	return m.conf.Peer != 0
}

// judge is the answer to a request.
func (m *model) judge(l []api.Opt) (uint8, []api.Opt) {
	var rejected, instead, poor []api.Opt
	for i, o := range l {
		if m.rejects(l, i) {
			rejected = append(rejected, o)
		} else if s, is := m.suggests(o); is {
			instead, poor = append(instead, s), append(poor, o)
		}
	}
	if len(rejected) > 0 {
		m.naks = 0
		return api.ConfRej, rejected
	}
	if len(instead) > 0 || m.misses(l) {
		if m.naks < m.conf.MaxNaks {
			m.naks++
			if m.misses(l) {
				instead = append(instead, addr(m.conf.Peer))
			}
			return api.ConfNak, instead
		}
		if len(poor) > 0 {
			m.naks = 0
			return api.ConfRej, poor
		}
	}
	m.naks = 0
	m.peer = says(l)
	return api.ConfAck, l
}

// acked is an Ack.
func (m *model) acked(l []api.Opt) bool {
	if !slices.Equal(l, listOf(m.wish)) {
		return false
	}
	m.mine = m.wish
	return true
}

// naked is a Nak.
func (m *model) naked(l []api.Opt) bool {
	have := [256]int{}
	for _, o := range l {
		if isGood(o) {
			have[o.Type]++
		}
		if have[o.Type] == 2 {
			return false
		}
	}
	if len(l) == 0 {
		return false
	}
	w := &m.wish
	for _, o := range l {
		switch {
		case !isGood(o), number(o) == 0:
		case o.Type == api.OptAddr && w.HasAddr && m.conf.Addr == 0:
			w.Addr = number(o)
		case o.Type == api.OptDns1 && w.HasDns1:
			w.Dns1 = number(o)
		case o.Type == api.OptDns2 && w.HasDns2:
			w.Dns2 = number(o)
		}
	}
	return true
}

// rejected is a Reject.
func (m *model) rejected(l []api.Opt) bool {
	if len(l) == 0 {
		return false
	}
	var kept []api.Opt
	rest := l
	for _, o := range listOf(m.wish) {
		if len(rest) > 0 && rest[0] == o {
			rest = rest[1:]
			continue
		}
		kept = append(kept, o)
	}
	if len(rest) > 0 {
		return false
	}
	m.wish = says(kept)
	return true
}

// What can be done to a policy.
const (
	judge = iota
	acked
	naked
	rejected
	reset
	kinds
)

// step is one thing that is done to a policy.
type step struct {
	kind int
	l    []api.Opt
}

// answer is what comes of a step.
type answer struct {
	ok   bool
	code uint8
	l    []api.Opt
	e    api.Errno
}

// equal is whether the answers are.
func (a answer) equal(b answer) bool {
	return a.ok == b.ok && a.code == b.code && a.e == b.e && slices.Equal(a.l, b.l)
}

// do performs the step at a policy.
func (s step) do(p *Policy) (a answer) {
	switch s.kind {
	case judge:
		a.code, a.l = p.Judge(s.l...)
	case acked:
		a.ok = p.Acked(s.l...)
	case naked:
		a.ok = p.Naked(s.l...)
	case rejected:
		a.ok = p.Rejected(s.l...)
	case reset:
		a.e = p.Reset()
	}
	return a
}

// should performs the step at a model.
func (s step) should(m *model) (a answer) {
	switch s.kind {
	case judge:
		a.code, a.l = m.judge(s.l)
	case acked:
		a.ok = m.acked(s.l)
	case naked:
		a.ok = m.naked(s.l)
	case rejected:
		a.ok = m.rejected(s.l)
	case reset:
		*m = modelOf(m.conf)
	}
	return a
}

// view is what a policy tells of itself.
type view struct {
	wish, mine, peer api.Ipcp
	request          string
}

// look asks a policy, twice and in another order, so that asking that changes something is seen.
func look(t *testing.T, p *Policy) view {
	t.Helper()
	first := view{p.Wish(), p.Mine(), p.Peer(), fmt.Sprint(p.Request())}
	request, peer, mine, wish := fmt.Sprint(p.Request()), p.Peer(), p.Mine(), p.Wish()
	if again := (view{wish, mine, peer, request}); again != first {
		t.Fatalf("asked again, %v is %v", first, again)
	}
	return first
}

// view is what the model's policy should tell of itself.
func (m model) view() view {
	return view{m.wish, m.mine, m.peer, fmt.Sprint(listOf(m.wish))}
}

// policy is New's, which must be there.
func policy(t *testing.T, c api.IpcpConf) *Policy {
	t.Helper()
	p, e := New(c)
	if e != api.OK || p == nil {
		t.Fatalf("New(%v): %v", c, e)
	}
	return p
}

// both performs the step at a policy and at its model, and compares what comes of it.
func both(t *testing.T, p *Policy, m *model, s step) answer {
	t.Helper()
	before, given := *m, slices.Clone(s.l)
	got, want := s.do(p), s.should(m)
	if !got.equal(want) {
		t.Fatalf("%v: step %v: %v, not %v", before, s, got, want)
	}
	if !slices.Equal(given, s.l) {
		t.Fatalf("%v: step %v was changed from %v", before, s, given)
	}
	if v := look(t, p); v != m.view() {
		t.Fatalf("%v: step %v: %v, not %v", before, s, v, m.view())
	}
	return got
}

// giving is a configuration that gives all that can be given, and asks for all that can be asked for.
func giving() api.IpcpConf {
	return api.IpcpConf{Peer: 0x0a000009, Dns1: 0x0a000035, Dns2: 0x0a000036, WantDns: true, MaxNaks: 2}
}

// few are addresses that each mean something of their own: none, those of giving, and others.
var few = []uint32{0, 1, 0x0a000009, 0x0a000035, 0x0a000036, 0xffffffff}

// confs are valid configurations of all kinds.
func confs() []api.IpcpConf {
	var l []api.IpcpConf
	for bits := range 1 << 5 {
		c := api.IpcpConf{WantDns: bits&16 != 0, MaxNaks: 1 + bits%3}
		if bits&1 != 0 {
			c.Addr = 0x0a000001
		}
		if bits&2 != 0 {
			c.Peer = 0x0a000009
		}
		if bits&4 != 0 {
			c.Dns1 = 0x0a000035
		}
		if bits&8 != 0 {
			c.Dns2 = 0x0a000036
		}
		l = append(l, c)
	}
	// All the same address, and the greatest one.
	return append(l, api.IpcpConf{Addr: 1, Peer: 1, Dns1: 1, Dns2: 1, WantDns: true, MaxNaks: 10},
		api.IpcpConf{Addr: math.MaxUint32, Peer: math.MaxUint32, Dns1: math.MaxUint32, Dns2: math.MaxUint32, MaxNaks: 2})
}

// options are valid ones and others of each type.
func options() []api.Opt {
	var l []api.Opt
	for _, n := range few {
		l = append(l, addr(n), dns1(n), dns2(n))
	}
	for _, t := range []uint8{api.OptAddr, api.OptDns1, api.OptDns2} {
		l = append(l, api.Opt{Type: t}, api.Opt{Type: t, Data: "\x0a\x00\x00"}, api.Opt{Type: t, Data: "\x0a\x00\x00\x09\x00"})
	}
	for _, t := range []uint8{0, 1, 2, 4, 128, 130, 132, 255} {
		l = append(l, api.Opt{Type: t, Data: be(0x0a000009)})
	}
	return append(l, api.Opt{}, api.Opt{Type: 2, Data: "\x00\x2d\x0f\x01"})
}

// TestP15_1New: each configuration that is valid makes a policy with its wishes; no other one does.
func TestP15_1New(t *testing.T) {
	for _, most := range []int{math.MinInt, -255, -1, 0, 1, 2, 5, 9, 10, 11, 257, 266, math.MaxInt} {
		for _, c := range confs() {
			c.MaxNaks = most
			p, e := New(c)
			if most < 1 || most > 10 {
				if p != nil || e != api.ErrArg {
					t.Errorf("New(%v): %v, %v", c, p, e)
				}
				continue
			}
			if p == nil || e != api.OK {
				t.Fatalf("New(%v): %v, %v", c, p, e)
			}
			if v, want := look(t, p), modelOf(c).view(); v != want {
				t.Errorf("New(%v): %v, not %v", c, v, want)
			}
		}
	}
}

// TestP15_1Wishes: the own address is wished for even if it is 0, the name servers only if they are wanted; what is given is not wished for.
func TestP15_1Wishes(t *testing.T) {
	for _, n := range few {
		p := policy(t, api.IpcpConf{Addr: n, Peer: 7, Dns1: 8, Dns2: 9, MaxNaks: 1})
		if got := p.Wish(); got != (api.Ipcp{HasAddr: true, Addr: n}) {
			t.Errorf("%d: %v", n, got)
		}
		p = policy(t, api.IpcpConf{Addr: n, Peer: 7, Dns1: 8, Dns2: 9, WantDns: true, MaxNaks: 1})
		if got := p.Wish(); got != (api.Ipcp{HasAddr: true, Addr: n, HasDns1: true, HasDns2: true}) {
			t.Errorf("%d, with name servers: %v", n, got)
		}
	}
}

// midway is a policy to which everything happened that is kept: it has acked, has been acked, counts a ConfNak, and has other wishes than at first.
func midway(t *testing.T) (*Policy, model) {
	t.Helper()
	p, m := policy(t, giving()), modelOf(giving())
	row := []step{
		{kind: judge, l: []api.Opt{dns1(0x0a000035), addr(0x0a000009)}},
		{kind: naked, l: []api.Opt{addr(5), dns1(6)}},
		{kind: acked, l: []api.Opt{addr(5), dns1(6), dns2(0)}},
		{kind: rejected, l: []api.Opt{dns1(6)}},
		{kind: naked, l: []api.Opt{addr(7), dns2(8)}},
		{kind: judge},
	}
	for i, s := range row {
		if got := both(t, p, &m, s); !got.ok && s.kind != judge {
			t.Fatalf("step %d: %v", i, got)
		}
	}
	want := view{
		wish:    api.Ipcp{HasAddr: true, Addr: 7, HasDns2: true, Dns2: 8},
		mine:    api.Ipcp{HasAddr: true, Addr: 5, HasDns1: true, Dns1: 6, HasDns2: true},
		peer:    api.Ipcp{HasAddr: true, Addr: 0x0a000009, HasDns1: true, Dns1: 0x0a000035},
		request: fmt.Sprint([]api.Opt{addr(7), dns2(8)}),
	}
	if v := look(t, p); v != want {
		t.Fatalf("%v, not %v", v, want)
	}
	return p, m
}

// TestP15_1Reset: in the middle of everything, a policy becomes as New would make it, its count of ConfNaks as well; nil has nothing to reset.
func TestP15_1Reset(t *testing.T) {
	p, m := midway(t)
	if got := both(t, p, &m, step{kind: reset}); got.e != api.OK {
		t.Fatal(got)
	}
	if fresh := policy(t, giving()); *p != *fresh {
		t.Errorf("%v, not %v", *p, *fresh)
	}
	for i, want := range []uint8{api.ConfNak, api.ConfNak, api.ConfRej, api.ConfNak} {
		if got := both(t, p, &m, step{kind: judge, l: []api.Opt{addr(1)}}); got.code != want {
			t.Errorf("request %d: %v", i, got)
		}
	}
	if e := (*Policy)(nil).Reset(); e != api.ErrNil {
		t.Error(e)
	}
}

// TestP15_1Copy: a copy is equal, and whatever is done to one of both, the other one doesn't change, nor does it answer otherwise.
func TestP15_1Copy(t *testing.T) {
	steps := []step{
		{kind: judge, l: []api.Opt{addr(0x0a000009), dns2(0x0a000036)}}, {kind: judge, l: []api.Opt{addr(1)}}, {kind: judge}, {kind: judge, l: []api.Opt{{Type: 99}}},
		{kind: acked, l: []api.Opt{addr(7), dns2(8)}},
		{kind: naked, l: []api.Opt{addr(3), dns2(4)}},
		{kind: rejected, l: []api.Opt{addr(7), dns2(8)}},
		{kind: reset},
	}
	for _, s := range steps {
		for _, first := range []bool{true, false} {
			p, m := midway(t)
			c := p.Copy()
			if c == nil || c == p || look(t, c) != look(t, p) || *c != *p {
				t.Fatalf("copy %v of %v", c, p)
			}
			moved, kept := p, c
			if !first {
				moved, kept = c, p
			}
			was := m
			both(t, moved, &m, s)
			if look(t, kept) != was.view() {
				t.Errorf("step %v, at the original: %v: the other one is %v, not %v", s, first, look(t, kept), was.view())
			}
			both(t, kept, &was, step{kind: judge, l: []api.Opt{addr(1)}})
			both(t, kept, &was, step{kind: judge, l: []api.Opt{addr(1)}})
		}
	}
	if c := (*Policy)(nil).Copy(); c != nil {
		t.Error(c)
	}
}

// TestP15_2Request: the request is the list of the wishes, in layer 10's order.
func TestP15_2Request(t *testing.T) {
	for _, r := range []struct {
		c    api.IpcpConf
		want []api.Opt
	}{
		{api.IpcpConf{MaxNaks: 1}, []api.Opt{addr(0)}},
		{api.IpcpConf{Addr: 0x0a000001, MaxNaks: 1}, []api.Opt{{Type: 3, Data: "\x0a\x00\x00\x01"}}},
		{giving(), []api.Opt{addr(0), dns1(0), dns2(0)}},
	} {
		if l := policy(t, r.c).Request(); !slices.Equal(l, r.want) {
			t.Errorf("%v: %v", r.c, l)
		}
	}
	if l := (*Policy)(nil).Request(); len(l) != 0 {
		t.Error(l)
	}
}

// judged checks the answer of a policy that is new to a request.
func judged(t *testing.T, c api.IpcpConf, l []api.Opt, code uint8, want ...api.Opt) {
	t.Helper()
	got, answer := policy(t, c).Judge(l...)
	if got != code || !slices.Equal(answer, want) {
		t.Errorf("%v: Judge(%v): %d %v, not %d %v", c, l, got, answer, code, want)
	}
}

// TestP15_2Examples: those of the chapter.
func TestP15_2Examples(t *testing.T) {
	c := api.IpcpConf{Peer: 0x0a000009, MaxNaks: 3}
	judged(t, c, []api.Opt{addr(0)}, api.ConfNak, addr(0x0a000009))
	judged(t, c, nil, api.ConfNak, addr(0x0a000009))
	judged(t, c, []api.Opt{addr(0x0a000009)}, api.ConfAck, addr(0x0a000009))
}

// TestP15_2Addr: the peer's address is what it is to be, or, if that is any, all but 0.
func TestP15_2Addr(t *testing.T) {
	for _, peer := range few {
		c := api.IpcpConf{Addr: 5, Peer: peer, MaxNaks: 1}
		for _, n := range append(few, 5, peer^1, peer^1<<31, peer+1) {
			l := []api.Opt{addr(n)}
			switch {
			case peer == 0 && n == 0:
				judged(t, c, l, api.ConfRej, l...)
			case peer == 0, n == peer:
				judged(t, c, l, api.ConfAck, l...)
			default:
				judged(t, c, l, api.ConfNak, addr(peer))
			}
		}
	}
}

// TestP15_2Dns: each of the name servers is the configured one; what is not configured is rejected, whatever is asked for.
func TestP15_2Dns(t *testing.T) {
	for _, given := range few {
		for _, n := range few {
			for _, which := range []struct {
				c   api.IpcpConf
				opt func(uint32) api.Opt
			}{
				{api.IpcpConf{Dns1: given, MaxNaks: 1}, dns1}, {api.IpcpConf{Dns2: given, MaxNaks: 1}, dns2},
				// Where the other one is given too.
				{api.IpcpConf{Dns1: given, Dns2: 77, MaxNaks: 1}, dns1}, {api.IpcpConf{Dns1: 77, Dns2: given, MaxNaks: 1}, dns2},
				// What this side asks for says nothing of what it gives.
				{api.IpcpConf{Dns1: given, WantDns: true, MaxNaks: 1}, dns1}, {api.IpcpConf{Dns2: given, WantDns: true, MaxNaks: 1}, dns2},
			} {
				l := []api.Opt{which.opt(n)}
				switch {
				case given == 0:
					judged(t, which.c, l, api.ConfRej, l...)
				case n == given:
					judged(t, which.c, l, api.ConfAck, l...)
				default:
					judged(t, which.c, l, api.ConfNak, which.opt(given))
				}
			}
		}
	}
}

// TestP15_2Missing: an address that is missing is suggested behind everything else, unless any may be had, or something is rejected.
func TestP15_2Missing(t *testing.T) {
	c := giving()
	nine := addr(0x0a000009)
	good1, good2 := dns1(0x0a000035), dns2(0x0a000036)
	judged(t, c, []api.Opt{good1}, api.ConfNak, nine)
	judged(t, c, []api.Opt{good2, good1}, api.ConfNak, nine)
	judged(t, c, []api.Opt{dns1(0)}, api.ConfNak, good1, nine)
	judged(t, c, []api.Opt{dns2(0), dns1(0)}, api.ConfNak, good2, good1, nine)
	judged(t, c, []api.Opt{dns2(0), good1}, api.ConfNak, good2, nine)
	judged(t, c, []api.Opt{dns2(0), addr(1), dns1(0)}, api.ConfNak, good2, nine, good1)
	judged(t, c, []api.Opt{dns2(0), nine, dns1(0)}, api.ConfNak, good2, good1)
	judged(t, c, []api.Opt{good2, nine, good1}, api.ConfAck, good2, nine, good1)
	judged(t, c, []api.Opt{{Type: 99}}, api.ConfRej, api.Opt{Type: 99})
	judged(t, c, []api.Opt{{Type: api.OptAddr}}, api.ConfRej, api.Opt{Type: api.OptAddr})
	c.Peer = 0
	judged(t, c, nil, api.ConfAck)
	judged(t, c, []api.Opt{good1}, api.ConfAck, good1)
	judged(t, c, []api.Opt{dns1(0)}, api.ConfNak, good1)
}

// TestP15_2Rejected: what can't be agreed on is rejected, and hides what else would be suggested.
func TestP15_2Rejected(t *testing.T) {
	c := giving()
	nine := addr(0x0a000009)
	short, odd := api.Opt{Type: api.OptAddr, Data: "abc"}, api.Opt{Type: 2, Data: "ab"}
	judged(t, c, []api.Opt{odd, nine, {Type: 0}}, api.ConfRej, odd, api.Opt{})
	judged(t, c, []api.Opt{addr(1), odd, dns1(1)}, api.ConfRej, odd)
	judged(t, c, []api.Opt{nine, nine}, api.ConfRej, nine)
	judged(t, c, []api.Opt{nine, dns1(0), nine, addr(1), dns1(0)}, api.ConfRej, nine, addr(1), dns1(0))
	judged(t, c, []api.Opt{addr(1), nine}, api.ConfRej, nine)
	judged(t, c, []api.Opt{short, nine}, api.ConfRej, short, nine)
	judged(t, c, []api.Opt{nine, short}, api.ConfRej, short)
	judged(t, c, []api.Opt{odd, odd}, api.ConfRej, odd, odd)
	none := api.IpcpConf{MaxNaks: 1}
	judged(t, none, []api.Opt{dns1(0), addr(0), dns2(3)}, api.ConfRej, dns1(0), addr(0), dns2(3))
	judged(t, none, []api.Opt{dns1(0), addr(4)}, api.ConfRej, dns1(0))
	judged(t, none, []api.Opt{addr(0), addr(4)}, api.ConfRej, addr(0), addr(4))
	for n := range 256 {
		for size := range 8 {
			o := api.Opt{Type: uint8(n), Data: string(make([]byte, size))}
			switch {
			case size != 4, n != 3 && n != 129 && n != 131:
				judged(t, c, []api.Opt{o}, api.ConfRej, o)
			case n == 3:
				judged(t, c, []api.Opt{o}, api.ConfNak, nine)
			case n == 129:
				judged(t, c, []api.Opt{o}, api.ConfNak, dns1(0x0a000035), nine)
			case n == 131:
				judged(t, c, []api.Opt{o}, api.ConfNak, dns2(0x0a000036), nine)
			}
		}
	}
}

// TestP15_2Rows: every request of up to two options is answered as defined, by policies of each kind, with each count of ConfNaks; every one of three by one of them.
func TestP15_2Rows(t *testing.T) {
	pool := options()
	for _, c := range confs() {
		check := func(l ...api.Opt) {
			for naks := range min(c.MaxNaks, 3) + 1 {
				p, m := policy(t, c), modelOf(c)
				p.naks, m.naks = naks, naks
				both(t, p, &m, step{kind: judge, l: l})
			}
		}
		check()
		for _, a := range pool {
			check(a)
			for _, b := range pool {
				check(a, b)
			}
		}
	}
	for _, a := range pool {
		for _, b := range pool {
			for _, o := range pool {
				l := []api.Opt{a, b, o}
				p, m := policy(t, giving()), modelOf(giving())
				got, want := (step{kind: judge, l: l}).do(p), (step{kind: judge, l: l}).should(&m)
				if !got.equal(want) {
					t.Fatalf("%v: %v, not %v", l, got, want)
				}
			}
		}
	}
}

// TestP15_2Many: requests of more options than a packet has are answered too, and soon.
func TestP15_2Many(t *testing.T) {
	l := make([]api.Opt, 50000)
	for i := range l {
		l[i] = api.Opt{Type: uint8(i), Data: be(7)}
	}
	code, answer := policy(t, giving()).Judge(l...)
	// The first one of each of the three types is not rejected.
	if code != api.ConfRej || len(answer) != len(l)-3 {
		t.Error(code, len(answer))
	}
}

// counting is a policy, and what it is told to count its ConfNaks.
type counting struct {
	t *testing.T
	p *Policy
	m model
}

// naks has so many requests answered, each by a ConfNak.
func (c *counting) naks(n int, l ...api.Opt) {
	c.t.Helper()
	for i := range n {
		if got := both(c.t, c.p, &c.m, step{kind: judge, l: l}); got.code != api.ConfNak {
			c.t.Fatalf("%v: request %d: %v", c.m, i, got)
		}
	}
}

// gets has one answered by something else.
func (c *counting) gets(l []api.Opt, code uint8, want ...api.Opt) {
	c.t.Helper()
	if got := both(c.t, c.p, &c.m, step{kind: judge, l: l}); got.code != code || !slices.Equal(got.l, want) {
		c.t.Fatalf("%v: %v: %v, not %d %v", c.m, l, got, code, want)
	}
}

// each runs a test with a counting policy of every MaxNaks.
func each(t *testing.T, f func(c *counting, most int)) {
	for most := 1; most <= api.MaxNaks_; most++ {
		conf := giving()
		conf.MaxNaks = most
		f(&counting{t, policy(t, conf), modelOf(conf)}, most)
	}
}

// TestP15_2MaxNaks: behind MaxNaks ConfNaks in a row the next one is a ConfRej of what isn't good; a ConfAck or a ConfRej ends the row.
func TestP15_2MaxNaks(t *testing.T) {
	good := []api.Opt{addr(0x0a000009)}
	poor := []api.Opt{dns2(0x0a000036), addr(1), dns1(0)}
	each(t, func(c *counting, most int) {
		c.naks(most, poor...)
		c.gets(poor, api.ConfRej, addr(1), dns1(0))
		c.naks(most, poor...)
		c.gets(poor, api.ConfRej, addr(1), dns1(0))
		c.naks(most-1, poor...)
		c.gets(good, api.ConfAck, good...)
		c.naks(most, poor...)
		c.gets([]api.Opt{addr(1), {Type: 99}}, api.ConfRej, api.Opt{Type: 99})
		c.naks(most, poor...)
		c.gets(good, api.ConfAck, good...)
		c.naks(most, poor...)
		// Replies are no answers: they end no row.
		both(t, c.p, &c.m, step{kind: acked, l: c.p.Request()})
		both(t, c.p, &c.m, step{kind: naked, l: []api.Opt{addr(3)}})
		both(t, c.p, &c.m, step{kind: rejected, l: []api.Opt{dns1(0)}})
		c.gets(poor, api.ConfRej, addr(1), dns1(0))
	})
}

// TestP15_2MaxMissing: behind MaxNaks ConfNaks in a row a missing address is no longer asked for: what isn't good is rejected, and if all is good it is acked.
func TestP15_2MaxMissing(t *testing.T) {
	good := []api.Opt{dns2(0x0a000036)}
	poor := []api.Opt{dns2(0x0a000036), dns1(0)}
	each(t, func(c *counting, most int) {
		c.naks(most)
		c.gets(nil, api.ConfAck)
		c.naks(most, good...)
		c.gets(good, api.ConfAck, good...)
		if c.p.Peer() != says(good) {
			t.Error(c.p.Peer())
		}
		// Each kind of ConfNak counts.
		c.naks(1)
		c.naks(most-1, poor...)
		c.gets(poor, api.ConfRej, dns1(0))
		c.naks(most, good...)
		c.gets([]api.Opt{addr(1)}, api.ConfRej, addr(1))
		c.naks(most, addr(1))
		c.gets(nil, api.ConfAck)
		if c.p.Peer() != (api.Ipcp{}) {
			t.Error(c.p.Peer())
		}
		c.naks(most)
		c.gets([]api.Opt{{Type: 99}}, api.ConfRej, api.Opt{Type: 99})
		c.naks(most)
	})
}

// replied checks whether a policy takes this for a reply, and what it wishes behind it.
func replied(t *testing.T, c api.IpcpConf, s step, ok bool, want api.Ipcp) {
	t.Helper()
	p, m := policy(t, c), modelOf(c)
	before := *p
	if got := both(t, p, &m, s); got.ok != ok || p.Wish() != want {
		t.Errorf("%v: %v: %v, %v, not %v", c, s, got.ok, p.Wish(), want)
	}
	if !ok && *p != before {
		t.Errorf("%v: %v: %v has changed to %v", c, s, before, *p)
	}
}

// TestP15_3Acked: only exactly the request is an Ack, and makes it Mine.
func TestP15_3Acked(t *testing.T) {
	c := giving()
	c.Addr = 0x0a000001
	wish := modelOf(c).wish
	all := listOf(wish)
	p := policy(t, c)
	if !p.Acked(all...) || p.Mine() != wish || p.Wish() != wish {
		t.Error(p.Mine())
	}
	for i := range all {
		less := slices.Delete(slices.Clone(all), i, i+1)
		more := slices.Insert(slices.Clone(all), i, api.Opt{Type: 99})
		twice := slices.Insert(slices.Clone(all), i, all[i])
		other, longer := slices.Clone(all), slices.Clone(all)
		other[i].Data = be(2)
		longer[i].Data += "x"
		swapped := slices.Clone(all)
		swapped[i], swapped[(i+1)%len(all)] = swapped[(i+1)%len(all)], swapped[i]
		for _, l := range [][]api.Opt{less, more, twice, other, longer, swapped, all[:i]} {
			replied(t, c, step{kind: acked, l: l}, false, wish)
		}
	}
	replied(t, c, step{kind: acked, l: append(slices.Clone(all), dns2(0))}, false, wish)
}

// TestP15_3AckedLater: what is acked is the request as it is by then; one that has become empty is acked by nothing.
func TestP15_3AckedLater(t *testing.T) {
	p, m := policy(t, giving()), modelOf(giving())
	old := p.Request()
	both(t, p, &m, step{kind: naked, l: []api.Opt{addr(5)}})
	if both(t, p, &m, step{kind: acked, l: old}).ok || p.Mine() != (api.Ipcp{}) {
		t.Error(p.Mine())
	}
	if !both(t, p, &m, step{kind: acked, l: p.Request()}).ok || p.Mine() != (api.Ipcp{HasAddr: true, Addr: 5, HasDns1: true, HasDns2: true}) {
		t.Error(p.Mine())
	}
	both(t, p, &m, step{kind: rejected, l: []api.Opt{addr(5)}})
	if p.Mine().Addr != 5 || p.Wish().HasAddr {
		t.Error(p.Mine(), p.Wish())
	}
	both(t, p, &m, step{kind: rejected, l: []api.Opt{dns1(0), dns2(0)}})
	if len(p.Request()) != 0 || both(t, p, &m, step{kind: acked, l: []api.Opt{addr(5)}}).ok {
		t.Error(p.Request())
	}
	if !both(t, p, &m, step{kind: acked}).ok || p.Mine() != (api.Ipcp{}) {
		t.Error(p.Mine())
	}
}

// TestP15_3Naked: what a Nak suggests becomes a wish, if there is one of its kind; 0, and what isn't valid, changes nothing.
func TestP15_3Naked(t *testing.T) {
	c := giving()
	wish := modelOf(c).wish
	nak := func(c api.IpcpConf, ok bool, want api.Ipcp, l ...api.Opt) {
		t.Helper()
		replied(t, c, step{kind: naked, l: l}, ok, want)
	}
	nak(c, false, wish)
	for _, l := range [][]api.Opt{
		{addr(5), addr(5)}, {dns1(5), addr(4), dns1(6)}, {dns2(0), dns2(0)}, {addr(5), {Type: 99}, addr(0)}, {addr(5), {Type: api.OptAddr}, addr(6)},
	} {
		nak(c, false, wish, l...)
	}
	nak(c, true, wish, api.Opt{Type: 99})
	nak(c, true, wish, api.Opt{Type: 99}, api.Opt{Type: 99})
	nak(c, true, wish, api.Opt{Type: api.OptAddr}, api.Opt{Type: api.OptDns1, Data: "abc"}, api.Opt{Type: api.OptDns2, Data: "abcde"})
	nak(c, true, api.Ipcp{HasAddr: true, Addr: 5, HasDns1: true, HasDns2: true}, api.Opt{Type: api.OptAddr}, addr(5), api.Opt{Type: api.OptAddr, Data: "abc"})
	for _, n := range few {
		nak(c, true, api.Ipcp{HasAddr: true, Addr: n, HasDns1: true, HasDns2: true}, addr(n))
		nak(c, true, api.Ipcp{HasAddr: true, HasDns1: true, Dns1: n, HasDns2: true}, dns1(n))
		nak(c, true, api.Ipcp{HasAddr: true, HasDns1: true, HasDns2: true, Dns2: n}, dns2(n))
	}
	nak(c, true, api.Ipcp{HasAddr: true, Addr: 5, HasDns1: true, Dns1: 6, HasDns2: true, Dns2: 7}, dns2(7), addr(5), dns1(6))
	plain := api.IpcpConf{MaxNaks: 1}
	nak(plain, true, api.Ipcp{HasAddr: true, Addr: 5}, dns2(7), addr(5), dns1(6))
	// An address of its own is kept, the name servers are not its own.
	c.Addr = 3
	nak(c, true, api.Ipcp{HasAddr: true, Addr: 3, HasDns1: true, Dns1: 6, HasDns2: true, Dns2: 7}, dns2(7), addr(5), dns1(6))
	nak(c, true, api.Ipcp{HasAddr: true, Addr: 3, HasDns1: true, HasDns2: true}, addr(0))
}

// TestP15_3NakedAgain: what was suggested ahead gives way to what is suggested later, but not to 0; what was rejected does not come back.
func TestP15_3NakedAgain(t *testing.T) {
	p, m := policy(t, giving()), modelOf(giving())
	wishes := func(want api.Ipcp, l ...api.Opt) {
		t.Helper()
		if got := both(t, p, &m, step{kind: naked, l: l}); !got.ok || p.Wish() != want {
			t.Errorf("%v: %v, %v, not %v", l, got.ok, p.Wish(), want)
		}
	}
	wishes(api.Ipcp{HasAddr: true, Addr: 5, HasDns1: true, Dns1: 6, HasDns2: true, Dns2: 7}, addr(5), dns1(6), dns2(7))
	wishes(api.Ipcp{HasAddr: true, Addr: 5, HasDns1: true, Dns1: 6, HasDns2: true, Dns2: 7}, addr(0), dns1(0), dns2(0))
	wishes(api.Ipcp{HasAddr: true, Addr: 8, HasDns1: true, Dns1: 6, HasDns2: true, Dns2: 7}, addr(8), dns1(0), api.Opt{Type: api.OptDns2})
	wishes(api.Ipcp{HasAddr: true, Addr: 8, HasDns1: true, Dns1: 9, HasDns2: true, Dns2: 10}, dns1(9), dns2(10))
	both(t, p, &m, step{kind: rejected, l: []api.Opt{addr(8), dns2(10)}})
	wishes(api.Ipcp{HasDns1: true, Dns1: 13}, addr(11), dns2(12), dns1(13))
	both(t, p, &m, step{kind: rejected, l: []api.Opt{dns1(13)}})
	wishes(api.Ipcp{}, addr(11), dns2(12), dns1(13))
}

// TestP15_3Rejected: some of the request, in its order, is no longer wished for; nothing else is a Reject.
func TestP15_3Rejected(t *testing.T) {
	for _, own := range []uint32{0, 0x0a000001} {
		c := giving()
		c.Addr = own
		wish := modelOf(c).wish
		all := listOf(wish)
		for bits := range 1 << len(all) {
			var gone, kept []api.Opt
			for i, o := range all {
				if bits>>i&1 != 0 {
					gone = append(gone, o)
				} else {
					kept = append(kept, o)
				}
			}
			if bits == 0 {
				replied(t, c, step{kind: rejected}, false, wish)
				continue
			}
			replied(t, c, step{kind: rejected, l: gone}, true, says(kept))
			replied(t, c, step{kind: rejected, l: append(slices.Clone(gone), api.Opt{Type: 99})}, false, wish)
			replied(t, c, step{kind: rejected, l: append(slices.Clone(gone), gone[len(gone)-1])}, false, wish)
			if len(gone) > 1 {
				slices.Reverse(gone)
				replied(t, c, step{kind: rejected, l: gone}, false, wish)
			}
		}
		for _, o := range []api.Opt{addr(5), dns1(5), dns2(5), {Type: api.OptAddr}, {Type: api.OptDns1, Data: "abc"}, {Type: 99}, {Type: 2, Data: be(0)}} {
			replied(t, c, step{kind: rejected, l: []api.Opt{o}}, false, wish)
			replied(t, c, step{kind: rejected, l: []api.Opt{all[0], o}}, false, wish)
		}
	}
	plain := api.IpcpConf{MaxNaks: 1}
	replied(t, plain, step{kind: rejected, l: []api.Opt{dns1(0)}}, false, api.Ipcp{HasAddr: true})
	replied(t, plain, step{kind: rejected, l: []api.Opt{addr(0)}}, true, api.Ipcp{})
}

// TestP15_3RejectedLater: what is rejected is of the request as it is by then; of one that has become empty nothing can be.
func TestP15_3RejectedLater(t *testing.T) {
	p, m := policy(t, giving()), modelOf(giving())
	both(t, p, &m, step{kind: naked, l: []api.Opt{dns1(6)}})
	if both(t, p, &m, step{kind: rejected, l: []api.Opt{dns1(0)}}).ok {
		t.Error("rejected what is no longer requested")
	}
	if !both(t, p, &m, step{kind: rejected, l: []api.Opt{dns1(6)}}).ok || p.Wish() != (api.Ipcp{HasAddr: true, HasDns2: true}) {
		t.Error(p.Wish())
	}
	if both(t, p, &m, step{kind: rejected, l: []api.Opt{dns1(0)}}).ok || both(t, p, &m, step{kind: rejected, l: []api.Opt{dns1(6)}}).ok {
		t.Error("rejected twice")
	}
	both(t, p, &m, step{kind: rejected, l: []api.Opt{addr(0), dns2(0)}})
	if both(t, p, &m, step{kind: rejected}).ok || both(t, p, &m, step{kind: rejected, l: []api.Opt{addr(0)}}).ok {
		t.Error("rejected of nothing")
	}
}

// TestP15_4Peer: what the last request says that was acked, and no other one.
func TestP15_4Peer(t *testing.T) {
	c := giving()
	c.MaxNaks = 10
	p, m := policy(t, c), modelOf(c)
	nine := addr(0x0a000009)
	with := api.Ipcp{HasAddr: true, Addr: 0x0a000009, HasDns1: true, Dns1: 0x0a000035, HasDns2: true, Dns2: 0x0a000036}
	for _, r := range []struct {
		l    []api.Opt
		want api.Ipcp
	}{
		{[]api.Opt{addr(1)}, api.Ipcp{}},
		{[]api.Opt{dns2(0x0a000036), nine, dns1(0x0a000035)}, with},
		{nil, with},
		{[]api.Opt{addr(1)}, with},
		{[]api.Opt{nine, nine}, with},
		{[]api.Opt{nine}, api.Ipcp{HasAddr: true, Addr: 0x0a000009}},
	} {
		both(t, p, &m, step{kind: judge, l: r.l})
		if p.Peer() != r.want {
			t.Errorf("%v: %v, not %v", r.l, p.Peer(), r.want)
		}
	}
	if p.Mine() != (api.Ipcp{}) || p.Wish() != modelOf(c).wish {
		t.Error(p.Mine(), p.Wish())
	}
}

// TestP15_4Nil: a nil policy has nothing, and answers nothing.
func TestP15_4Nil(t *testing.T) {
	var p *Policy
	if code, l := p.Judge(addr(1)); code != 0 || len(l) != 0 {
		t.Error(code, l)
	}
	if code, l := p.Judge(); code != 0 || len(l) != 0 {
		t.Error(code, l)
	}
	if p.Acked() || p.Naked(addr(1)) || p.Rejected(addr(1)) {
		t.Error("true for nil")
	}
	none := api.Ipcp{}
	if p.Wish() != none || p.Mine() != none || p.Peer() != none {
		t.Error("something for nil")
	}
}

// TestP15_2Memory: what a caller does to what it passed, or was handed back, changes no policy.
func TestP15_2Memory(t *testing.T) {
	for _, s := range []step{
		{kind: judge, l: []api.Opt{addr(0x0a000009), dns1(0x0a000035)}}, {kind: judge, l: []api.Opt{addr(1), dns1(0)}}, {kind: judge, l: []api.Opt{{Type: 99}}}, {kind: judge},
		{kind: acked, l: []api.Opt{addr(0), dns1(0), dns2(0)}}, {kind: naked, l: []api.Opt{addr(5)}}, {kind: rejected, l: []api.Opt{dns1(0)}},
	} {
		p, m := policy(t, giving()), modelOf(giving())
		given := slices.Clone(s.l)
		got := both(t, p, &m, step{kind: s.kind, l: given})
		request := p.Request()
		for _, l := range [][]api.Opt{got.l, request} {
			for i := range l {
				l[i] = api.Opt{Type: 77, Data: "gone"}
			}
		}
		if !slices.Equal(given, s.l) {
			t.Errorf("%v: the answer is the request's memory", s)
		}
		for i := range given {
			given[i] = api.Opt{Type: 77, Data: "gone"}
		}
		if look(t, p) != m.view() {
			t.Errorf("%v: %v", s, look(t, p))
		}
	}
}

// TestP15_5Meets: a peer that omits what is rejected, takes what is suggested, and requests a missing address, is acked with exactly what it requested, and with no other address.
func TestP15_5Meets(t *testing.T) {
	pool := options()
	for i, c := range confs() {
		r := rand.New(rand.NewSource(int64(i)))
		for _, a := range pool {
			for _, b := range pool {
				meets(t, policy(t, c), c, a, b)
			}
		}
		for range 200 {
			p := policy(t, c)
			// What was answered ahead may have used up the ConfNaks.
			for range r.Intn(4) {
				p.Judge(some(r, pool, 2)...)
			}
			meets(t, p, c, some(r, pool, 9)...)
		}
	}
}

// meets has a peer go by the answers till its request is acked: it may have to omit, to take, and, if its own address was rejected for too many ConfNaks, once more to request one.
func meets(t *testing.T, p *Policy, c api.IpcpConf, l ...api.Opt) {
	t.Helper()
	first := l
	for range 5 {
		code, answer := p.Judge(l...)
		switch code {
		case api.ConfAck:
			if !slices.Equal(answer, l) || p.Peer() != says(l) {
				t.Fatalf("%v: acked %v of %v, %v", first, answer, l, p.Peer())
			}
			if x := says(l); c.Peer != 0 && x.HasAddr && x.Addr != c.Peer {
				t.Fatalf("%v: acked %v", first, l)
			}
			return
		case api.ConfRej:
			l = omitted(t, l, answer)
		case api.ConfNak:
			l = taken(t, l, answer)
		}
	}
	t.Fatalf("%v: still %v", first, l)
}

// omitted is the request without what was rejected. Of equal options the last ones were.
func omitted(t *testing.T, l, gone []api.Opt) []api.Opt {
	t.Helper()
	kept := slices.Clone(l)
	for i := len(kept) - 1; i >= 0 && len(gone) > 0; i-- {
		if last := len(gone) - 1; kept[i] == gone[last] {
			kept, gone = slices.Delete(kept, i, i+1), gone[:last]
		}
	}
	if len(gone) > 0 {
		t.Fatalf("%v was not requested, in that order, with %v", gone, l)
	}
	return kept
}

// taken is the request with the suggested values instead of its own, and with the address that it had not.
func taken(t *testing.T, l, values []api.Opt) []api.Opt {
	t.Helper()
	l = slices.Clone(l)
	has := false
	for i, o := range l {
		has = has || o.Type == api.OptAddr
		if len(values) > 0 && values[0].Type == o.Type {
			if values[0] == o {
				t.Fatalf("%v is suggested for itself", o)
			}
			l[i], values = values[0], values[1:]
		}
	}
	if !has && len(values) == 1 && values[0].Type == api.OptAddr {
		return append(l, values[0])
	}
	if len(values) > 0 {
		t.Fatalf("%v is suggested for none of %v", values, l)
	}
	return l
}

// TestP15_5Only: over all requests, whatever was answered ahead, no address is acked but the peer's.
func TestP15_5Only(t *testing.T) {
	pool := options()
	for i, c := range confs() {
		if c.Peer == 0 {
			continue
		}
		r := rand.New(rand.NewSource(int64(i)))
		p := policy(t, c)
		for range 3000 {
			l := some(r, pool, 2)
			code, answer := p.Judge(l...)
			if code == api.ConfAck && (!slices.Equal(answer, l) || slices.ContainsFunc(l, func(o api.Opt) bool { return o.Type == api.OptAddr && o != addr(c.Peer) })) {
				t.Fatalf("%v: acked %v of %v", c, answer, l)
			}
		}
	}
}

// some is a row of up to n options of the pool.
func some(r *rand.Rand, pool []api.Opt, n int) []api.Opt {
	l := make([]api.Opt, r.Intn(n+1))
	for i := range l {
		l[i] = pool[r.Intn(len(pool))]
	}
	return l
}

// reply is the request as a peer might answer it: as it is, some of it, or with a change.
func reply(r *rand.Rand, request, pool []api.Opt) []api.Opt {
	l := slices.Clone(request)
	if r.Intn(3) > 0 {
		l = slices.DeleteFunc(l, func(api.Opt) bool { return r.Intn(2) > 0 })
	}
	if len(l) > 0 && r.Intn(4) == 0 {
		l[r.Intn(len(l))] = pool[r.Intn(len(pool))]
	}
	return l
}

// asked is a request as a peer might make it that knows what it is to have: some of that, or with a change.
func asked(r *rand.Rand, c api.IpcpConf, pool []api.Opt) []api.Opt {
	l := []api.Opt{addr(c.Peer), dns1(c.Dns1), dns2(c.Dns2)}
	r.Shuffle(len(l), func(i, j int) { l[i], l[j] = l[j], l[i] })
	return reply(r, l, pool)
}

// TestP15_5Walks: over long rows of requests and replies of whatever kind a policy does what the definitions say.
func TestP15_5Walks(t *testing.T) {
	pool := options()
	for i, c := range confs() {
		r := rand.New(rand.NewSource(int64(i)))
		for range 60 {
			p, m := policy(t, c), modelOf(c)
			for range 80 {
				s := step{kind: r.Intn(kinds)}
				if s.kind == reset && r.Intn(10) > 0 {
					s.kind = judge
				}
				switch {
				case s.kind == judge && r.Intn(2) > 0:
					s.l = asked(r, c, pool)
				case s.kind == judge, s.kind == naked:
					s.l = some(r, pool, 3)
				case s.kind != reset:
					s.l = reply(r, listOf(m.wish), pool)
				}
				both(t, p, &m, s)
			}
		}
	}
}
