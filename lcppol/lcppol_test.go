package lcppol

import (
	"fmt"
	"math"
	"math/rand"
	"slices"
	"testing"

	"halyard/api"
)

// be is the big-endian bytes of a number, as many as are asked for.
func be(n uint64, size int) string {
	b := make([]byte, size)
	for i := range b {
		b[i] = byte(n >> (8 * (size - 1 - i)))
	}
	return string(b)
}

// Valid options.
func mru(n uint16) api.Opt   { return api.Opt{Type: api.OptMru, Data: be(uint64(n), 2)} }
func accm(n uint32) api.Opt  { return api.Opt{Type: api.OptAccm, Data: be(uint64(n), 4)} }
func magic(n uint32) api.Opt { return api.Opt{Type: api.OptMagic, Data: be(uint64(n), 4)} }

var (
	pap  = api.Opt{Type: api.OptAuth, Data: "\xc0\x23"}
	chap = api.Opt{Type: api.OptAuth, Data: "\xc2\x23\x05"}
	pfc  = api.Opt{Type: api.OptPfc}
	acfc = api.Opt{Type: api.OptAcfc}
)

// kindOf is the kind of authentication that a valid option says.
func kindOf(o api.Opt) uint8 {
	switch o {
	case pap:
		return api.AuthPap
	case chap:
		return api.AuthChap
	}
	return api.AuthNone
}

// number is what the option's data is as a number.
func number(o api.Opt) uint32 {
	n := uint32(0)
	for i := range len(o.Data) {
		n = n<<8 | uint32(o.Data[i])
	}
	return n
}

// isGood is whether an option is valid, by the words of layer 9's chapter.
func isGood(o api.Opt) bool {
	switch o.Type {
	case api.OptMru:
		return len(o.Data) == 2
	case api.OptAccm, api.OptMagic:
		return len(o.Data) == 4
	case api.OptAuth:
		return o == pap || o == chap
	case api.OptPfc, api.OptAcfc:
		return o.Data == ""
	}
	return false
}

// listOf is the list of x, in ascending order of types.
func listOf(x api.Lcp) []api.Opt {
	var l []api.Opt
	if x.HasMru {
		l = append(l, mru(x.Mru))
	}
	if x.HasAccm {
		l = append(l, accm(x.Accm))
	}
	switch x.Auth {
	case api.AuthPap:
		l = append(l, pap)
	case api.AuthChap:
		l = append(l, chap)
	}
	if x.HasMagic {
		l = append(l, magic(x.Magic))
	}
	if x.Pfc {
		l = append(l, pfc)
	}
	if x.Acfc {
		l = append(l, acfc)
	}
	return l
}

// says is what a list of valid options, none twice, specifies.
func says(l []api.Opt) api.Lcp {
	x := api.Lcp{}
	for _, o := range l {
		switch o.Type {
		case api.OptMru:
			x.HasMru, x.Mru = true, uint16(number(o))
		case api.OptAccm:
			x.HasAccm, x.Accm = true, number(o)
		case api.OptAuth:
			x.Auth = kindOf(o)
		case api.OptMagic:
			x.HasMagic, x.Magic = true, number(o)
		case api.OptPfc:
			x.Pfc = true
		case api.OptAcfc:
			x.Acfc = true
		}
	}
	return x
}

// model is a policy, word by word as the chapter defines it.
type model struct {
	conf             api.LcpConf
	wish, mine, peer api.Lcp
	naks, loops      int
	bad              bool
}

// modelOf is the model of a policy to which nothing has happened.
func modelOf(c api.LcpConf, number uint32) model {
	m := model{conf: c}
	if c.Mru != 0 {
		m.wish.HasMru, m.wish.Mru = true, c.Mru
	}
	if c.HasAccm {
		m.wish.HasAccm, m.wish.Accm = true, c.Accm
	}
	m.wish.Auth, m.wish.Pfc, m.wish.Acfc = c.Auth, c.Pfc, c.Acfc
	if c.Magic {
		m.wish.HasMagic, m.wish.Magic = true, number
		if number == 0 {
			m.wish.Magic = 1
		}
	}
	return m
}

// rejects is whether the option in this place is rejected.
func (m *model) rejects(l []api.Opt, at int) bool {
	o := l[at]
	switch o.Type {
	case api.OptMru, api.OptAccm, api.OptAuth, api.OptMagic, api.OptPfc, api.OptAcfc:
	default:
		return true
	}
	for _, earlier := range l[:at] {
		if earlier.Type == o.Type {
			return true
		}
	}
	if o.Type == api.OptAuth {
		return m.conf.Can == 0
	}
	return !isGood(o)
}

// suggests is the value that is suggested for an option that is not rejected, if one is.
func (m *model) suggests(o api.Opt) (api.Opt, bool) {
	switch o.Type {
	case api.OptAuth:
		if isGood(o) && m.conf.Can&kindOf(o) != 0 {
			return o, false
		}
		if m.conf.Can&api.AuthChap != 0 {
			return chap, true
		}
		return pap, true
	case api.OptMru:
		return mru(api.MinMru), number(o) < api.MinMru
	case api.OptMagic:
		n := number(o)
		own := m.wish.HasMagic && n == m.wish.Magic
		if n != 0 && !own {
			return o, false
		}
		inverted := n ^ 0xffffffff
		if inverted == 0 || m.wish.HasMagic && inverted == m.wish.Magic {
			return magic(1), true
		}
		return magic(inverted), true
	}
	return o, false
}

// judge is the answer to a request.
func (m *model) judge(l []api.Opt) (uint8, []api.Opt) {
	var rejected, instead, poor []api.Opt
	loop := false
	for i, o := range l {
		loop = loop || m.wish.HasMagic && o == magic(m.wish.Magic)
		if m.rejects(l, i) {
			rejected = append(rejected, o)
		} else if s, is := m.suggests(o); is {
			instead, poor = append(instead, s), append(poor, o)
		}
	}
	if loop {
		m.loops++
	}
	if len(rejected) > 0 {
		m.naks = 0
		return api.ConfRej, rejected
	}
	if len(instead) > 0 && m.naks == m.conf.MaxNaks {
		m.naks = 0
		return api.ConfRej, poor
	}
	if len(instead) > 0 {
		m.naks++
		return api.ConfNak, instead
	}
	m.naks = 0
	m.peer = says(l)
	return api.ConfAck, l
}

// acked is an Ack.
func (m *model) acked(l []api.Opt) bool {
	if !slices.Equal(l, listOf(m.wish)) {
		return false
	}
	m.mine = m.wish
	return true
}

// naked is a Nak.
func (m *model) naked(draw uint32, l []api.Opt) bool {
	have := map[uint8]int{}
	for _, o := range l {
		if isGood(o) {
			have[o.Type]++
		}
		if have[o.Type] == 2 {
			return false
		}
	}
	if len(l) == 0 {
		return false
	}
	w := &m.wish
	for _, o := range l {
		switch {
		case !isGood(o):
		case o.Type == api.OptMru && w.HasMru && number(o) >= api.MinMru:
			w.Mru = uint16(number(o))
		case o.Type == api.OptAccm && w.HasAccm:
			w.Accm |= number(o)
		case o.Type == api.OptAuth && w.Auth != api.AuthNone && m.conf.Takes&kindOf(o) != 0:
			w.Auth = kindOf(o)
		case o.Type == api.OptMagic && w.HasMagic:
			w.Magic = draw
			if draw == 0 {
				w.Magic = 1
			}
		}
	}
	return true
}

// rejected is a Reject.
func (m *model) rejected(l []api.Opt) bool {
	if len(l) == 0 {
		return false
	}
	var kept []api.Opt
	rest := l
	for _, o := range listOf(m.wish) {
		if len(rest) > 0 && rest[0] == o {
			rest = rest[1:]
			continue
		}
		kept = append(kept, o)
	}
	if len(rest) > 0 {
		return false
	}
	m.bad = m.bad || m.wish.Auth != api.AuthNone && says(kept).Auth == api.AuthNone
	m.wish = says(kept)
	return true
}

// What can be done to a policy.
const (
	judge = iota
	acked
	naked
	rejected
	reset
	kinds
)

// step is one thing that is done to a policy.
type step struct {
	kind int
	draw uint32
	l    []api.Opt
}

// answer is what comes of a step.
type answer struct {
	ok   bool
	code uint8
	l    []api.Opt
	e    api.Errno
}

// equal is whether the answers are.
func (a answer) equal(b answer) bool {
	return a.ok == b.ok && a.code == b.code && a.e == b.e && slices.Equal(a.l, b.l)
}

// do performs the step at a policy.
func (s step) do(p *Policy) (a answer) {
	switch s.kind {
	case judge:
		a.code, a.l = p.Judge(s.l...)
	case acked:
		a.ok = p.Acked(s.l...)
	case naked:
		a.ok = p.Naked(s.draw, s.l...)
	case rejected:
		a.ok = p.Rejected(s.l...)
	case reset:
		a.e = p.Reset(s.draw)
	}
	return a
}

// should performs the step at a model.
func (s step) should(m *model) (a answer) {
	switch s.kind {
	case judge:
		a.code, a.l = m.judge(s.l)
	case acked:
		a.ok = m.acked(s.l)
	case naked:
		a.ok = m.naked(s.draw, s.l)
	case rejected:
		a.ok = m.rejected(s.l)
	case reset:
		*m = modelOf(m.conf, s.draw)
	}
	return a
}

// view is what a policy tells of itself.
type view struct {
	wish, mine, peer api.Lcp
	loops            int
	bad              bool
	request          string
}

// look asks a policy, twice and in another order, so that asking that changes something is seen.
func look(t *testing.T, p *Policy) view {
	t.Helper()
	first := view{p.Wish(), p.Mine(), p.Peer(), p.Loops(), p.Bad(), fmt.Sprint(p.Request())}
	request, bad, loops, peer, mine, wish := fmt.Sprint(p.Request()), p.Bad(), p.Loops(), p.Peer(), p.Mine(), p.Wish()
	if again := (view{wish, mine, peer, loops, bad, request}); again != first {
		t.Fatalf("asked again, %v is %v", first, again)
	}
	return first
}

// view is what the model's policy should tell of itself.
func (m model) view() view {
	return view{m.wish, m.mine, m.peer, m.loops, m.bad, fmt.Sprint(listOf(m.wish))}
}

// policy is New's, which must be there.
func policy(t *testing.T, c api.LcpConf, number uint32) *Policy {
	t.Helper()
	p, e := New(c, number)
	if e != api.OK || p == nil {
		t.Fatalf("New(%v): %v", c, e)
	}
	return p
}

// both performs the step at a policy and at its model, and compares what comes of it.
func both(t *testing.T, p *Policy, m *model, s step) answer {
	t.Helper()
	before, given := *m, slices.Clone(s.l)
	got, want := s.do(p), s.should(m)
	if !got.equal(want) {
		t.Fatalf("%v: step %v: %v, not %v", before, s, got, want)
	}
	if !slices.Equal(given, s.l) {
		t.Fatalf("%v: step %v was changed from %v", before, s, given)
	}
	if v := look(t, p); v != m.view() {
		t.Fatalf("%v: step %v: %v, not %v", before, s, v, m.view())
	}
	return got
}

// demanding is a configuration that has each wish.
func demanding() api.LcpConf {
	return api.LcpConf{
		Mru: 1500, HasAccm: true, Accm: 0x000a0000, Auth: api.AuthChap, Takes: 3, Can: 3,
		Magic: true, Pfc: true, Acfc: true, MaxNaks: 2,
	}
}

// confs are valid configurations of all kinds.
func confs() []api.LcpConf {
	var l []api.LcpConf
	for auth, all := range [][]uint8{{0}, {1, 3}, {2, 3}} {
		for _, takes := range all {
			for can := range uint8(4) {
				c := demanding()
				c.Auth, c.Takes, c.Can = uint8(auth), takes, can
				l = append(l, c)
			}
		}
	}
	plain := api.LcpConf{MaxNaks: 1}
	only := func(f func(c *api.LcpConf)) {
		c := plain
		f(&c)
		l = append(l, c)
	}
	only(func(c *api.LcpConf) {})
	only(func(c *api.LcpConf) { c.Can = 3; c.MaxNaks = 10 })
	only(func(c *api.LcpConf) { c.Mru = 64 })
	only(func(c *api.LcpConf) { c.Mru = 65535 })
	only(func(c *api.LcpConf) { c.HasAccm = true })
	only(func(c *api.LcpConf) { c.HasAccm, c.Accm = true, math.MaxUint32 })
	only(func(c *api.LcpConf) { c.Magic, c.Can, c.MaxNaks = true, 1, 3 })
	only(func(c *api.LcpConf) { c.Pfc = true })
	only(func(c *api.LcpConf) { c.Acfc = true })
	return l
}

// numbers are magic numbers that each mean something of their own.
var numbers = []uint32{0, 1, 2, 7, 0xfffffff8, 0xfffffffe, 0xffffffff}

// options are valid ones and others of each type; some are wished by demanding, with the magic number 7.
func options() []api.Opt {
	l := []api.Opt{
		mru(0), mru(63), mru(64), mru(65), mru(1500), mru(65535),
		{Type: api.OptMru}, {Type: api.OptMru, Data: "\x05"}, {Type: api.OptMru, Data: "\x05\xdc\x00"},
		accm(0), accm(0x000a0000), accm(0x80000001), {Type: api.OptAccm}, {Type: api.OptAccm, Data: "abc"}, {Type: api.OptAccm, Data: "abcde"},
		pap, chap, {Type: api.OptAuth}, {Type: api.OptAuth, Data: "\xc0"}, {Type: api.OptAuth, Data: "\xc0\x24"}, {Type: api.OptAuth, Data: "\xc0\x23\x05"},
		{Type: api.OptAuth, Data: "\xc2\x23"}, {Type: api.OptAuth, Data: "\xc2\x23\x06"}, {Type: api.OptAuth, Data: "\xc2\x23\x05\x00"},
		{Type: api.OptMagic}, {Type: api.OptMagic, Data: "\x00\x00\x07"}, {Type: api.OptMagic, Data: "\x00\x00\x00\x07\x00"},
		pfc, {Type: api.OptPfc, Data: "\x00"}, acfc, {Type: api.OptAcfc, Data: "\x00"},
		{Type: 0}, {Type: 4, Data: "\xc0\x25\x00\x00"}, {Type: 6}, {Type: 9}, {Type: 255, Data: "x"},
	}
	for _, n := range numbers {
		l = append(l, magic(n))
	}
	return l
}

// TestP14_1New: each configuration that is valid makes a policy with its wishes; no other one does.
func TestP14_1New(t *testing.T) {
	naks := []int{math.MinInt, -1, 0, 1, 2, 10, 11, 266, math.MaxInt}
	few := []uint8{0, 1, 2, 3, 4, 5, 255}
	for _, n := range []uint16{0, 1, 63, 64, 65, 1500, 65535} {
		for _, chars := range []api.Lcp{{}, {Accm: 1}, {Accm: math.MaxUint32}, {HasAccm: true}, {HasAccm: true, Accm: 9}} {
			for _, auth := range few {
				for _, takes := range few {
					for _, can := range few {
						for _, most := range naks {
							c := api.LcpConf{Mru: n, HasAccm: chars.HasAccm, Accm: chars.Accm, Auth: auth, Takes: takes, Can: can, MaxNaks: most}
							checkNew(t, c)
						}
					}
				}
			}
		}
	}
}

// isValid is whether a configuration is, by the words of the chapter.
func isValid(c api.LcpConf) bool {
	switch {
	case c.Mru != 0 && c.Mru < 64, !c.HasAccm && c.Accm != 0, c.Takes > 3, c.Can > 3, c.MaxNaks < 1, c.MaxNaks > 10:
		return false
	}
	switch c.Auth {
	case api.AuthNone:
		return c.Takes == 0
	case api.AuthPap:
		return c.Takes == 1 || c.Takes == 3
	case api.AuthChap:
		return c.Takes == 2 || c.Takes == 3
	}
	return false
}

// checkNew makes a policy of this configuration, with each of the three that are only there or not.
func checkNew(t *testing.T, c api.LcpConf) {
	t.Helper()
	for bits := range 8 {
		c.Magic, c.Pfc, c.Acfc = bits&1 != 0, bits&2 != 0, bits&4 != 0
		p, e := New(c, 7)
		if !isValid(c) {
			if p != nil || e != api.ErrArg {
				t.Fatalf("New(%v): %v, %v", c, p, e)
			}
			continue
		}
		if p == nil || e != api.OK {
			t.Fatalf("New(%v): %v, %v", c, p, e)
		}
		if v, want := look(t, p), modelOf(c, 7).view(); v != want {
			t.Fatalf("New(%v): %v, not %v", c, v, want)
		}
	}
}

// TestP14_1Magic: the magic number is the one that was passed, 1 instead of 0, and only where it is wanted.
func TestP14_1Magic(t *testing.T) {
	for _, n := range numbers {
		want := n
		if n == 0 {
			want = 1
		}
		p := policy(t, api.LcpConf{Magic: true, MaxNaks: 1}, n)
		if got := p.Wish(); got != (api.Lcp{HasMagic: true, Magic: want}) {
			t.Errorf("%d: %v", n, got)
		}
		if e := p.Reset(n ^ 5); e != api.OK || p.Wish().Magic != n^5 {
			t.Errorf("%d: %v, %v", n^5, e, p.Wish())
		}
		if e := p.Reset(0); e != api.OK || p.Wish().Magic != 1 {
			t.Errorf("0: %v, %v", e, p.Wish())
		}
		none := policy(t, api.LcpConf{MaxNaks: 1}, n)
		if e := none.Reset(n); e != api.OK || none.Wish() != (api.Lcp{}) {
			t.Errorf("%d, not wanted: %v", n, none.Wish())
		}
	}
}

// midway is a policy to which everything happened that is kept: it has acked, has been acked, is bad, counts a loop and a ConfNak, and has other wishes than at first.
func midway(t *testing.T) (*Policy, model) {
	t.Helper()
	p, m := policy(t, demanding(), 7), modelOf(demanding(), 7)
	row := []step{
		{kind: judge, l: []api.Opt{mru(100), magic(8), pfc}},
		{kind: acked, l: listOf(m.wish)},
		{kind: naked, draw: 9, l: []api.Opt{mru(1000), accm(1), pap, magic(7)}},
		{kind: rejected, l: []api.Opt{pap, pfc}},
		{kind: judge, l: []api.Opt{magic(9)}},
	}
	for i, s := range row {
		if got := both(t, p, &m, s); !got.ok && s.kind != judge {
			t.Fatalf("step %d: %v", i, got)
		}
	}
	want := view{
		wish:  api.Lcp{HasMru: true, Mru: 1000, HasAccm: true, Accm: 0x000a0001, HasMagic: true, Magic: 9, Acfc: true},
		mine:  api.Lcp{HasMru: true, Mru: 1500, HasAccm: true, Accm: 0x000a0000, Auth: api.AuthChap, HasMagic: true, Magic: 7, Pfc: true, Acfc: true},
		peer:  api.Lcp{HasMru: true, Mru: 100, HasMagic: true, Magic: 8, Pfc: true},
		loops: 1, bad: true,
		request: fmt.Sprint([]api.Opt{mru(1000), accm(0x000a0001), magic(9), acfc}),
	}
	if v := look(t, p); v != want {
		t.Fatalf("%v, not %v", v, want)
	}
	return p, m
}

// TestP14_1Reset: in the middle of everything, a policy becomes as New would make it, its count of ConfNaks as well; nil has nothing to reset.
func TestP14_1Reset(t *testing.T) {
	for _, n := range numbers {
		p, m := midway(t)
		if got := both(t, p, &m, step{kind: reset, draw: n}); got.e != api.OK {
			t.Fatal(got)
		}
		if fresh := policy(t, demanding(), n); *p != *fresh {
			t.Errorf("%v, not %v", *p, *fresh)
		}
		for i, want := range []uint8{api.ConfNak, api.ConfNak, api.ConfRej, api.ConfNak} {
			if got := both(t, p, &m, step{kind: judge, l: []api.Opt{mru(1)}}); got.code != want {
				t.Errorf("request %d: %v", i, got)
			}
		}
	}
	if e := (*Policy)(nil).Reset(7); e != api.ErrNil {
		t.Error(e)
	}
}

// TestP14_1Copy: a copy is equal, and whatever is done to one of both, the other one doesn't change, nor does it answer otherwise.
func TestP14_1Copy(t *testing.T) {
	steps := []step{
		{kind: judge, l: []api.Opt{mru(200)}}, {kind: judge, l: []api.Opt{mru(1)}}, {kind: judge, l: []api.Opt{magic(9)}}, {kind: judge, l: []api.Opt{{Type: 99}}},
		{kind: acked, l: []api.Opt{mru(1000), accm(0x000a0001), magic(9), acfc}},
		{kind: naked, draw: 3, l: []api.Opt{mru(100), accm(0xf), magic(9)}},
		{kind: rejected, l: []api.Opt{mru(1000), accm(0x000a0001), magic(9), acfc}},
		{kind: reset, draw: 5},
	}
	for _, s := range steps {
		for _, first := range []bool{true, false} {
			p, m := midway(t)
			c := p.Copy()
			if c == nil || c == p || look(t, c) != look(t, p) || *c != *p {
				t.Fatalf("copy %v of %v", c, p)
			}
			moved, kept := p, c
			if !first {
				moved, kept = c, p
			}
			was := m
			both(t, moved, &m, s)
			if look(t, kept) != was.view() {
				t.Errorf("step %v, at the original: %v: the other one is %v, not %v", s, first, look(t, kept), was.view())
			}
			both(t, kept, &was, step{kind: judge, l: []api.Opt{mru(1)}})
			both(t, kept, &was, step{kind: judge, l: []api.Opt{mru(1)}})
		}
	}
	if c := (*Policy)(nil).Copy(); c != nil {
		t.Error(c)
	}
}

// TestP14_2Request: the request is the list of the wishes, in ascending order of types.
func TestP14_2Request(t *testing.T) {
	p := policy(t, demanding(), 7)
	want := []api.Opt{mru(1500), accm(0x000a0000), chap, magic(7), pfc, acfc}
	if l := p.Request(); !slices.Equal(l, want) {
		t.Error(l)
	}
	if l := policy(t, api.LcpConf{MaxNaks: 1}, 7).Request(); len(l) != 0 {
		t.Error(l)
	}
	if l := (*Policy)(nil).Request(); len(l) != 0 {
		t.Error(l)
	}
}

// judged checks the answer of a policy that is new to a request.
func judged(t *testing.T, c api.LcpConf, number uint32, l []api.Opt, code uint8, want ...api.Opt) {
	t.Helper()
	got, answer := policy(t, c, number).Judge(l...)
	if got != code || !slices.Equal(answer, want) {
		t.Errorf("%v, %d: Judge(%v): %d %v, not %d %v", c, number, l, got, answer, code, want)
	}
}

// TestP14_2Examples: those of the chapter.
func TestP14_2Examples(t *testing.T) {
	judged(t, api.LcpConf{MaxNaks: 1}, 7, []api.Opt{pap}, api.ConfRej, pap)
	judged(t, api.LcpConf{Can: 2, MaxNaks: 1}, 7, []api.Opt{pap}, api.ConfNak, chap)
	judged(t, api.LcpConf{MaxNaks: 1}, 7, []api.Opt{mru(10)}, api.ConfNak, mru(64))
	judged(t, api.LcpConf{MaxNaks: 1}, 7, nil, api.ConfAck)
}

// TestP14_2Auth: a kind that this side can't do is exchanged for one that it can, CHAP first; if it can do none, the option is rejected.
func TestP14_2Auth(t *testing.T) {
	odd := []api.Opt{{Type: api.OptAuth}, {Type: api.OptAuth, Data: "\xc0\x24"}, {Type: api.OptAuth, Data: "\xc2\x23\x06"}}
	for can := range uint8(4) {
		c := api.LcpConf{Can: can, MaxNaks: 1}
		for _, o := range append(odd, pap, chap) {
			l := []api.Opt{o}
			switch {
			case can == 0:
				judged(t, c, 7, l, api.ConfRej, o)
			case o == pap && can&1 != 0, o == chap && can&2 != 0:
				judged(t, c, 7, l, api.ConfAck, o)
			case can == 1:
				judged(t, c, 7, l, api.ConfNak, pap)
			default:
				judged(t, c, 7, l, api.ConfNak, chap)
			}
		}
	}
}

// TestP14_2Mru: less than MinMru is raised to it.
func TestP14_2Mru(t *testing.T) {
	for n := range 65536 {
		l := []api.Opt{mru(uint16(n))}
		if n < 64 {
			judged(t, demanding(), 7, l, api.ConfNak, mru(64))
		} else {
			judged(t, demanding(), 7, l, api.ConfAck, l...)
		}
	}
}

// TestP14_2Magic: 0 and the own number are exchanged for the bits inverted, or for 1.
func TestP14_2Magic(t *testing.T) {
	with, without := demanding(), api.LcpConf{MaxNaks: 1}
	type row struct {
		c             api.LcpConf
		own, got, ask uint32 // ask: the number that is suggested, 0 if what was received is good
	}
	for _, r := range []row{
		{with, 7, 0, 0xffffffff}, {with, 7, 7, 0xfffffff8}, {with, 7, 8, 0}, {with, 7, 0xffffffff, 0}, {with, 7, 1, 0},
		{with, 1, 1, 0xfffffffe}, {with, 0, 1, 0xfffffffe}, {with, 0, 0, 0xffffffff}, {with, 0xfffffffe, 0xfffffffe, 1},
		{with, 0xffffffff, 0xffffffff, 1}, {with, 0xffffffff, 0, 1}, {with, 0xffffffff, 0xfffffffe, 0},
		{without, 7, 0, 0xffffffff}, {without, 7, 7, 0}, {without, 0xffffffff, 0, 0xffffffff}, {without, 0xffffffff, 0xffffffff, 0}, {without, 0, 1, 0},
	} {
		l := []api.Opt{magic(r.got)}
		if r.ask == 0 {
			judged(t, r.c, r.own, l, api.ConfAck, l...)
		} else {
			judged(t, r.c, r.own, l, api.ConfNak, magic(r.ask))
		}
	}
}

// TestP14_2Rejected: what can't be agreed on is rejected, and hides what else would be suggested.
func TestP14_2Rejected(t *testing.T) {
	c := demanding()
	bad := api.Opt{Type: api.OptPfc, Data: "x"}
	odd := api.Opt{Type: 4, Data: "ab"}
	judged(t, c, 7, []api.Opt{odd, mru(1500), bad, {Type: 0}}, api.ConfRej, odd, bad, api.Opt{})
	judged(t, c, 7, []api.Opt{mru(10), odd, magic(7), bad}, api.ConfRej, odd, bad)
	judged(t, c, 7, []api.Opt{pfc, mru(1500), pfc}, api.ConfRej, pfc)
	judged(t, c, 7, []api.Opt{pfc, pfc, pfc}, api.ConfRej, pfc, pfc)
	judged(t, c, 7, []api.Opt{mru(10), mru(1500)}, api.ConfRej, mru(1500))
	judged(t, c, 7, []api.Opt{pap, chap}, api.ConfRej, chap)
	judged(t, c, 7, []api.Opt{bad, pfc}, api.ConfRej, bad, pfc)
	judged(t, c, 7, []api.Opt{{Type: api.OptAuth}, pap}, api.ConfRej, pap)
	judged(t, c, 7, []api.Opt{acfc, magic(7), mru(10)}, api.ConfNak, magic(0xfffffff8), mru(64))
	judged(t, c, 7, []api.Opt{acfc, accm(3), magic(8), mru(64)}, api.ConfAck, acfc, accm(3), magic(8), mru(64))
	for n := range 256 {
		o := api.Opt{Type: uint8(n)}
		switch n {
		case 7, 8:
			judged(t, c, 7, []api.Opt{o}, api.ConfAck, o)
		case 3:
			judged(t, c, 7, []api.Opt{o}, api.ConfNak, chap)
		default:
			judged(t, c, 7, []api.Opt{o}, api.ConfRej, o)
		}
	}
}

// TestP14_2Rows: every request of up to three options is answered as defined, by policies of each kind.
func TestP14_2Rows(t *testing.T) {
	pool := options()
	for i, c := range confs() {
		number := numbers[i%len(numbers)]
		check := func(l ...api.Opt) {
			p, m := policy(t, c, number), modelOf(c, number)
			both(t, p, &m, step{kind: judge, l: l})
		}
		check()
		for _, a := range pool {
			check(a)
			for _, b := range pool {
				check(a, b)
			}
		}
	}
	for _, a := range pool {
		for _, b := range pool {
			for _, c := range pool {
				l := []api.Opt{a, b, c}
				p, m := policy(t, demanding(), 7), modelOf(demanding(), 7)
				got, want := (step{kind: judge, l: l}).do(p), (step{kind: judge, l: l}).should(&m)
				if !got.equal(want) {
					t.Fatalf("%v: %v, not %v", l, got, want)
				}
			}
		}
	}
}

// TestP14_2Many: requests of more options than a packet has are answered too, and soon.
func TestP14_2Many(t *testing.T) {
	l := make([]api.Opt, 50000)
	for i := range l {
		l[i] = api.Opt{Type: uint8(i), Data: "\x00\x00\x00\x07"}
	}
	p := policy(t, demanding(), 7)
	code, answer := p.Judge(l...)
	// The first of each of OptAccm, OptAuth and OptMagic is not rejected.
	if code != api.ConfRej || len(answer) != len(l)-3 || p.Loops() != 1 {
		t.Error(code, len(answer), p.Loops())
	}
}

// TestP14_2MaxNaks: behind MaxNaks ConfNaks in a row the next one is a ConfRej; a ConfAck or a ConfRej ends the row.
func TestP14_2MaxNaks(t *testing.T) {
	poor := []api.Opt{pfc, mru(10), magic(7)}
	for most := 1; most <= api.MaxNaks_; most++ {
		c := demanding()
		c.MaxNaks = most
		p, m := policy(t, c, 7), modelOf(c, 7)
		naks := func(n int) {
			t.Helper()
			for i := range n {
				if got := both(t, p, &m, step{kind: judge, l: poor}); got.code != api.ConfNak {
					t.Fatalf("%d: request %d: %v", most, i, got)
				}
			}
		}
		last := func(l []api.Opt, code uint8, want ...api.Opt) {
			t.Helper()
			if got := both(t, p, &m, step{kind: judge, l: l}); got.code != code || !slices.Equal(got.l, want) {
				t.Fatalf("%d: %v: %v", most, l, got)
			}
		}
		naks(most)
		last(poor, api.ConfRej, mru(10), magic(7))
		naks(most)
		last(poor, api.ConfRej, mru(10), magic(7))
		naks(most - 1)
		last([]api.Opt{pfc}, api.ConfAck, pfc)
		naks(most)
		last([]api.Opt{mru(10), {Type: 99}}, api.ConfRej, api.Opt{Type: 99})
		naks(most)
		last([]api.Opt{pfc}, api.ConfAck, pfc)
		naks(most)
		// Replies are no answers: they end no row.
		both(t, p, &m, step{kind: acked, l: p.Request()})
		both(t, p, &m, step{kind: naked, draw: 7, l: []api.Opt{mru(100)}})
		both(t, p, &m, step{kind: rejected, l: []api.Opt{pfc}})
		last(poor, api.ConfRej, mru(10), magic(7))
	}
}

// replied checks whether a policy takes this for a reply, and what it wishes behind it.
func replied(t *testing.T, c api.LcpConf, s step, ok bool, want api.Lcp) {
	t.Helper()
	p, m := policy(t, c, 7), modelOf(c, 7)
	before := *p
	if got := both(t, p, &m, s); got.ok != ok || p.Wish() != want {
		t.Errorf("%v: %v: %v, %v, not %v", c, s, got.ok, p.Wish(), want)
	}
	if !ok && *p != before {
		t.Errorf("%v: %v: %v has changed to %v", c, s, before, *p)
	}
}

// TestP14_3Acked: only exactly the request is an Ack, and makes it Mine.
func TestP14_3Acked(t *testing.T) {
	c := demanding()
	wish := modelOf(c, 7).wish
	all := listOf(wish)
	p := policy(t, c, 7)
	if !p.Acked(all...) || p.Mine() != wish || p.Wish() != wish {
		t.Error(p.Mine())
	}
	for i := range all {
		less := slices.Delete(slices.Clone(all), i, i+1)
		more := slices.Insert(slices.Clone(all), i, api.Opt{Type: 99})
		twice := slices.Insert(slices.Clone(all), i, all[i])
		other := slices.Clone(all)
		other[i].Data += "x"
		swapped := slices.Clone(all)
		swapped[i], swapped[(i+1)%len(all)] = swapped[(i+1)%len(all)], swapped[i]
		for _, l := range [][]api.Opt{less, more, twice, other, swapped, all[:i]} {
			replied(t, c, step{kind: acked, l: l}, false, wish)
		}
	}
	replied(t, c, step{kind: acked, l: append(slices.Clone(all), pfc)}, false, wish)
	for i, o := range []api.Opt{mru(1499), accm(0x000a0001), pap, magic(8)} {
		other := slices.Clone(all)
		other[i] = o
		replied(t, c, step{kind: acked, l: other}, false, wish)
	}
	none := api.LcpConf{MaxNaks: 1}
	replied(t, none, step{kind: acked}, true, api.Lcp{})
	replied(t, none, step{kind: acked, l: []api.Opt{pfc}}, false, api.Lcp{})
}

// TestP14_3AckedLater: what is acked is the request as it is by then.
func TestP14_3AckedLater(t *testing.T) {
	p, m := policy(t, demanding(), 7), modelOf(demanding(), 7)
	old := p.Request()
	both(t, p, &m, step{kind: naked, draw: 3, l: []api.Opt{mru(100)}})
	if both(t, p, &m, step{kind: acked, l: old}).ok || p.Mine() != (api.Lcp{}) {
		t.Error(p.Mine())
	}
	if !both(t, p, &m, step{kind: acked, l: p.Request()}).ok || p.Mine().Mru != 100 {
		t.Error(p.Mine())
	}
	both(t, p, &m, step{kind: rejected, l: []api.Opt{mru(100)}})
	if p.Mine().Mru != 100 || p.Wish().HasMru {
		t.Error(p.Mine(), p.Wish())
	}
	both(t, p, &m, step{kind: acked, l: p.Request()})
	if p.Mine().HasMru {
		t.Error(p.Mine())
	}
}

// TestP14_3Naked: what a Nak suggests becomes a wish as far as it may; what isn't wished for, or isn't valid, changes nothing.
func TestP14_3Naked(t *testing.T) {
	c := demanding()
	wish := modelOf(c, 7).wish
	nak := func(c api.LcpConf, ok bool, want api.Lcp, draw uint32, l ...api.Opt) {
		t.Helper()
		replied(t, c, step{kind: naked, draw: draw, l: l}, ok, want)
	}
	but := func(f func(x *api.Lcp)) api.Lcp {
		x := wish
		f(&x)
		return x
	}
	nak(c, false, wish, 9)
	for _, l := range [][]api.Opt{
		{mru(100), mru(100)}, {pfc, pfc}, {acfc, mru(100), acfc}, {pap, mru(100), chap}, {magic(1), accm(1), magic(2)}, {accm(1), {Type: 99}, accm(1)},
	} {
		nak(c, false, wish, 9, l...)
	}
	nak(c, true, wish, 9, api.Opt{Type: 99}, api.Opt{Type: 99})
	nak(c, true, wish, 9, api.Opt{Type: api.OptMru, Data: "\x05"}, api.Opt{Type: api.OptAccm}, api.Opt{Type: api.OptAuth, Data: "\xc0\x24"}, api.Opt{Type: api.OptMagic, Data: "abc"})
	nak(c, true, but(func(x *api.Lcp) { x.Mru = 100 }), 9, api.Opt{Type: api.OptMru}, mru(100), api.Opt{Type: api.OptMru, Data: "abc"})
	for _, n := range []uint16{64, 65, 1500, 65535} {
		nak(c, true, but(func(x *api.Lcp) { x.Mru = n }), 9, mru(n))
	}
	for _, n := range []uint16{0, 1, 63} {
		nak(c, true, wish, 9, mru(n))
	}
	for _, n := range []uint32{0, 1, 0x00020000, 0x000f0000, 0xffffffff} {
		nak(c, true, but(func(x *api.Lcp) { x.Accm |= n }), 9, accm(n))
	}
	for _, n := range numbers {
		nak(c, true, but(func(x *api.Lcp) { x.Magic = max(n, 1) }), n, magic(7))
		nak(c, true, but(func(x *api.Lcp) { x.Magic = max(n, 1) }), n, magic(0))
		nak(c, true, wish, n, pfc, acfc)
	}
	nak(c, true, api.Lcp{HasMru: true, Mru: 70, HasAccm: true, Accm: 0x000a0005, Auth: api.AuthPap, HasMagic: true, Magic: 9, Pfc: true, Acfc: true}, 9,
		acfc, magic(3), pap, accm(5), pfc, mru(70))
	nak(api.LcpConf{MaxNaks: 1}, true, api.Lcp{}, 9, mru(100), accm(1), pap, magic(3), pfc, acfc)
	nak(api.LcpConf{Pfc: true, MaxNaks: 1}, true, api.Lcp{Pfc: true}, 9, mru(100), accm(1), chap, magic(3), pfc, acfc)
}

// TestP14_3NakedAuth: another kind is demanded only if it would be taken.
func TestP14_3NakedAuth(t *testing.T) {
	for _, r := range []struct{ auth, takes, onPap, onChap uint8 }{
		{0, 0, 0, 0}, {1, 1, 1, 1}, {1, 3, 1, 2}, {2, 2, 2, 2}, {2, 3, 1, 2},
	} {
		c := api.LcpConf{Auth: r.auth, Takes: r.takes, Can: 3, MaxNaks: 1}
		replied(t, c, step{kind: naked, l: []api.Opt{pap}}, true, api.Lcp{Auth: r.onPap})
		replied(t, c, step{kind: naked, l: []api.Opt{chap}}, true, api.Lcp{Auth: r.onChap})
	}
}

// TestP14_3Rejected: some of the request, in its order, is no longer wished for; nothing else is a Reject.
func TestP14_3Rejected(t *testing.T) {
	c := demanding()
	wish := modelOf(c, 7).wish
	all := listOf(wish)
	for bits := range 1 << len(all) {
		var gone, kept []api.Opt
		for i, o := range all {
			if bits>>i&1 != 0 {
				gone = append(gone, o)
			} else {
				kept = append(kept, o)
			}
		}
		if bits == 0 {
			replied(t, c, step{kind: rejected}, false, wish)
			continue
		}
		replied(t, c, step{kind: rejected, l: gone}, true, says(kept))
		replied(t, c, step{kind: rejected, l: append(slices.Clone(gone), api.Opt{Type: 99})}, false, wish)
		replied(t, c, step{kind: rejected, l: append(slices.Clone(gone), gone[len(gone)-1])}, false, wish)
		if len(gone) > 1 {
			slices.Reverse(gone)
			replied(t, c, step{kind: rejected, l: gone}, false, wish)
		}
	}
	for _, o := range []api.Opt{mru(1499), accm(1), pap, magic(8), {Type: api.OptPfc, Data: "x"}, {Type: 99}, {Type: api.OptMru}} {
		replied(t, c, step{kind: rejected, l: []api.Opt{o}}, false, wish)
		replied(t, c, step{kind: rejected, l: []api.Opt{acfc, o}}, false, wish)
	}
	replied(t, api.LcpConf{MaxNaks: 1}, step{kind: rejected, l: []api.Opt{pfc}}, false, api.Lcp{})
	replied(t, api.LcpConf{MaxNaks: 1}, step{kind: rejected}, false, api.Lcp{})
}

// TestP14_4Bad: a policy is bad once authentication was rejected, and not by anything else, until it is reset.
func TestP14_4Bad(t *testing.T) {
	p, m := policy(t, demanding(), 7), modelOf(demanding(), 7)
	both(t, p, &m, step{kind: rejected, l: []api.Opt{chap, {Type: 99}}})
	both(t, p, &m, step{kind: rejected, l: []api.Opt{mru(1500), magic(7), pfc}})
	both(t, p, &m, step{kind: naked, l: []api.Opt{pap}})
	both(t, p, &m, step{kind: rejected, l: []api.Opt{chap}})
	if p.Bad() {
		t.Error("bad ahead of time")
	}
	both(t, p, &m, step{kind: rejected, l: []api.Opt{pap}})
	for _, s := range []step{{kind: judge}, {kind: rejected, l: []api.Opt{acfc}}, {kind: acked, l: []api.Opt{accm(0x000a0000)}}, {kind: naked, l: []api.Opt{chap}}} {
		both(t, p, &m, s)
		if !p.Bad() || p.Wish().Auth != api.AuthNone {
			t.Errorf("%v: %v, %v", s, p.Bad(), p.Wish())
		}
	}
	both(t, p, &m, step{kind: reset})
	if p.Bad() {
		t.Error("still bad")
	}
	// What the peer asks for does not make it bad.
	none := policy(t, api.LcpConf{MaxNaks: 1}, 7)
	if code, _ := none.Judge(chap); code != api.ConfRej || none.Bad() {
		t.Error(code, none.Bad())
	}
}

// TestP14_4Loops: each request that has the own magic number counts, once, whatever is answered; that number is the wish's.
func TestP14_4Loops(t *testing.T) {
	c := demanding()
	c.MaxNaks = 1
	p, m := policy(t, c, 7), modelOf(c, 7)
	loops := func(want int, l ...api.Opt) {
		t.Helper()
		if both(t, p, &m, step{kind: judge, l: l}); p.Loops() != want {
			t.Errorf("%v: %d loops, not %d", l, p.Loops(), want)
		}
	}
	loops(0)
	loops(0, magic(8))
	loops(0, magic(0))
	loops(0, api.Opt{Type: api.OptMagic, Data: "\x00\x00\x00\x07\x00"})
	loops(0, api.Opt{Type: api.OptAccm, Data: "\x00\x00\x00\x07"})
	loops(1, magic(7))
	loops(2, magic(7))
	loops(3, magic(7), api.Opt{Type: 99})
	loops(4, p.Request()...)
	loops(5, magic(7), magic(7))
	loops(6, magic(8), magic(7))
	both(t, p, &m, step{kind: naked, draw: 8, l: []api.Opt{magic(1)}})
	loops(6, magic(7))
	loops(7, magic(8))
	both(t, p, &m, step{kind: rejected, l: []api.Opt{magic(8)}})
	loops(7, magic(8))
	loops(7, magic(0))
	both(t, p, &m, step{kind: reset, draw: 0})
	loops(1, magic(1))
}

// TestP14_4Peer: what the last request says that was acked, and no other one.
func TestP14_4Peer(t *testing.T) {
	p, m := policy(t, demanding(), 7), modelOf(demanding(), 7)
	for _, r := range []struct {
		l    []api.Opt
		want api.Lcp
	}{
		{[]api.Opt{mru(10)}, api.Lcp{}},
		{[]api.Opt{acfc, chap, pfc, accm(3), magic(5), mru(70)}, api.Lcp{HasMru: true, Mru: 70, HasAccm: true, Accm: 3, Auth: api.AuthChap, HasMagic: true, Magic: 5, Pfc: true, Acfc: true}},
		{[]api.Opt{mru(80)}, api.Lcp{HasMru: true, Mru: 80}},
		{[]api.Opt{mru(10)}, api.Lcp{HasMru: true, Mru: 80}},
		{[]api.Opt{mru(90), pfc, pfc}, api.Lcp{HasMru: true, Mru: 80}},
		{nil, api.Lcp{}},
	} {
		both(t, p, &m, step{kind: judge, l: r.l})
		if p.Peer() != r.want {
			t.Errorf("%v: %v, not %v", r.l, p.Peer(), r.want)
		}
	}
}

// TestP14_4Nil: a nil policy has nothing, and answers nothing.
func TestP14_4Nil(t *testing.T) {
	var p *Policy
	if code, l := p.Judge(mru(10)); code != 0 || len(l) != 0 {
		t.Error(code, l)
	}
	if p.Acked() || p.Naked(1, pfc) || p.Rejected(pfc) || p.Bad() {
		t.Error("true for nil")
	}
	none := api.Lcp{}
	if p.Wish() != none || p.Mine() != none || p.Peer() != none || p.Loops() != 0 {
		t.Error("something for nil")
	}
}

// TestP14_2Memory: what a caller does to what it passed, or was handed back, changes no policy.
func TestP14_2Memory(t *testing.T) {
	for _, s := range []step{
		{kind: judge, l: []api.Opt{mru(100), pfc}}, {kind: judge, l: []api.Opt{mru(10), pfc}}, {kind: judge, l: []api.Opt{{Type: 99}}},
		{kind: acked, l: listOf(modelOf(demanding(), 7).wish)}, {kind: naked, l: []api.Opt{mru(100)}}, {kind: rejected, l: []api.Opt{pfc}},
	} {
		p, m := policy(t, demanding(), 7), modelOf(demanding(), 7)
		given := slices.Clone(s.l)
		got := both(t, p, &m, step{kind: s.kind, l: given})
		request := p.Request()
		for _, l := range [][]api.Opt{got.l, request} {
			for i := range l {
				l[i] = api.Opt{Type: 77, Data: "gone"}
			}
		}
		if !slices.Equal(given, s.l) {
			t.Errorf("%v: the answer is the request's memory", s)
		}
		for i := range given {
			given[i] = api.Opt{Type: 77, Data: "gone"}
		}
		if look(t, p) != m.view() {
			t.Errorf("%v: %v", s, look(t, p))
		}
	}
}

// TestP14_5Meets: a peer that omits what is rejected, and takes what is suggested, is acked with its third request, or with the one behind a ConfRej for too many ConfNaks; and no option is both.
func TestP14_5Meets(t *testing.T) {
	pool := options()
	for i, c := range confs() {
		r := rand.New(rand.NewSource(int64(i)))
		for _, number := range []uint32{numbers[i%len(numbers)], 0xffffffff} {
			for _, a := range pool {
				for _, b := range pool {
					meets(t, policy(t, c, number), a, b)
				}
			}
			for range 100 {
				meets(t, policy(t, c, number), some(r, pool, 9)...)
			}
		}
	}
}

// meets has a peer go by the answers till its request is acked.
func meets(t *testing.T, p *Policy, l ...api.Opt) {
	t.Helper()
	first := l
	for range 3 {
		code, answer := p.Judge(l...)
		switch code {
		case api.ConfAck:
			if !slices.Equal(answer, l) || p.Peer() != says(l) {
				t.Fatalf("%v: acked %v of %v, %v", first, answer, l, p.Peer())
			}
			return
		case api.ConfRej:
			l = omitted(t, l, answer)
		case api.ConfNak:
			l = taken(t, l, answer)
		}
	}
	t.Fatalf("%v: still %v", first, l)
}

// omitted is the request without what was rejected. Of equal options the last ones were.
func omitted(t *testing.T, l, gone []api.Opt) []api.Opt {
	t.Helper()
	kept := slices.Clone(l)
	for i := len(kept) - 1; i >= 0 && len(gone) > 0; i-- {
		if last := len(gone) - 1; kept[i] == gone[last] {
			kept, gone = slices.Delete(kept, i, i+1), gone[:last]
		}
	}
	if len(gone) > 0 {
		t.Fatalf("%v was not requested, in that order, with %v", gone, l)
	}
	return kept
}

// taken is the request with the suggested values instead of its own.
func taken(t *testing.T, l, values []api.Opt) []api.Opt {
	t.Helper()
	l = slices.Clone(l)
	for i, o := range l {
		if len(values) > 0 && values[0].Type == o.Type {
			if values[0] == o {
				t.Fatalf("%v is suggested for itself", o)
			}
			l[i], values = values[0], values[1:]
		}
	}
	if len(values) > 0 {
		t.Fatalf("%v is suggested for none of %v", values, l)
	}
	return l
}

// some is a row of up to n options of the pool.
func some(r *rand.Rand, pool []api.Opt, n int) []api.Opt {
	l := make([]api.Opt, r.Intn(n+1))
	for i := range l {
		l[i] = pool[r.Intn(len(pool))]
	}
	return l
}

// reply is the request as a peer might answer it: as it is, some of it, or with a change.
func reply(r *rand.Rand, request, pool []api.Opt) []api.Opt {
	l := slices.Clone(request)
	if r.Intn(3) > 0 {
		l = slices.DeleteFunc(l, func(api.Opt) bool { return r.Intn(2) > 0 })
	}
	if len(l) > 0 && r.Intn(4) == 0 {
		l[r.Intn(len(l))] = pool[r.Intn(len(pool))]
	}
	return l
}

// TestP14_5Walks: over long rows of requests and replies of whatever kind a policy does what the definitions say.
func TestP14_5Walks(t *testing.T) {
	pool := options()
	for i, c := range confs() {
		r := rand.New(rand.NewSource(int64(i)))
		for range 60 {
			number := numbers[r.Intn(len(numbers))]
			p, m := policy(t, c, number), modelOf(c, number)
			for range 80 {
				s := step{kind: r.Intn(kinds), draw: numbers[r.Intn(len(numbers))]}
				switch {
				case s.kind == reset && r.Intn(10) > 0:
					s.kind = judge
					fallthrough
				case s.kind == judge && r.Intn(2) > 0, s.kind == naked:
					s.l = some(r, pool, 4)
				case s.kind != reset:
					s.l = reply(r, listOf(m.wish), pool)
				}
				both(t, p, &m, s)
			}
		}
	}
}
