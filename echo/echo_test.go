package echo

import (
	"fmt"
	"math"
	"math/rand"
	"slices"
	"strings"
	"testing"

	"halyard/api"
)

// last is the greatest time.
const last = int64(1) << 60

// be is the big-endian bytes of a number.
func be(n uint32) string {
	return string([]byte{byte(n >> 24), byte(n >> 16), byte(n >> 8), byte(n)})
}

// pkt, request, answer and discard are packets.
func pkt(code, id uint8, data string) api.Packet { return api.Packet{Code: code, Id: id, Data: data} }
func request(id uint8, data string) api.Packet   { return pkt(9, id, data) }
func answer(id uint8, data string) api.Packet    { return pkt(10, id, data) }
func discard(id uint8, data string) api.Packet   { return pkt(11, id, data) }

// conf is a configuration.
func conf(every, most int) api.EchoConf { return api.EchoConf{Every: every, Most: most} }

// view is what an echo tells of itself.
type view struct {
	at     int64
	is     bool
	dead   bool
	missed int
}

// look asks an echo, twice and in another order, so that asking that changes something is seen.
func look(t *testing.T, e *Echo) view {
	t.Helper()
	at, is := e.Next()
	first := view{at, is, e.Dead(), e.Missed()}
	missed, dead := e.Missed(), e.Dead()
	at, is = e.Next()
	if again := (view{at, is, dead, missed}); again != first {
		t.Fatalf("asked again, %v is %v", first, again)
	}
	return first
}

// must is New's, which must be there.
func must(t *testing.T, c api.EchoConf, magic uint32, now int64) *Echo {
	t.Helper()
	e, wrong := New(c, magic, now)
	if wrong != api.OK || e == nil {
		t.Fatalf("New(%v, %d, %d): %v", c, magic, now, wrong)
	}
	return e
}

// step is a time, or a packet if is.
type step struct {
	now int64
	is  bool
	p   api.Packet
}

// at and gets are steps.
func at(now int64) step        { return step{now: now} }
func gets(p api.Packet) step   { return step{is: true, p: p} }
func (s step) String() string  { return fmt.Sprintf("(%d %v %q)", s.now, s.is, s.p) }
func (v view) String() string  { return fmt.Sprintf("(%d %v %v %d)", v.at, v.is, v.dead, v.missed) }
func (r reply) String() string { return fmt.Sprintf("%q %d", r.l, r.e) }

// reply is what comes of a step.
type reply struct {
	l []api.Packet
	e api.Errno
}

// same is whether both are the same.
func (r reply) same(x reply) bool { return r.e == x.e && slices.Equal(r.l, x.l) }

// sends, none and no are what comes of a step: these packets; nothing; an error.
func sends(l ...api.Packet) reply { return reply{l: l} }
func none() reply                 { return reply{} }
func no(e api.Errno) reply        { return reply{e: e} }

// does is the step done to an echo.
func (s step) does(e *Echo) reply {
	if s.is {
		l, wrong := e.Packet(s.p)
		return reply{l, wrong}
	}
	l, wrong := e.Tick(s.now)
	return reply{l, wrong}
}

// line is a step, what must come of it, and what the echo must be behind it.
type line struct {
	s    step
	want reply
	is   view
}

// follow does a row of steps to an echo, and holds it against what is written.
func follow(t *testing.T, e *Echo, row ...line) {
	t.Helper()
	for i, x := range row {
		if got := x.s.does(e); !got.same(x.want) {
			t.Fatalf("%d: of %v comes %v, not %v", i, x.s, got, x.want)
		}
		if got := look(t, e); got != x.is {
			t.Fatalf("%d: behind %v it is %v, not %v", i, x.s, got, x.is)
		}
	}
}

// model is an echo, word by word as the chapter defines it.
type model struct {
	conf       api.EchoConf
	magic      uint32
	began, now int64
	asked      []int64 // when the requests were sent
	answered   int     // how many of them were, when the last answer came
	dead       bool
}

// copy is another one of the same.
func (m *model) copy() *model {
	c := *m
	c.asked = slices.Clone(m.asked)
	return &c
}

// id is the identifier of the n-th request, from 1 on.
func id(n int) uint8 { return uint8(n % 256) }

func (m *model) missed() int { return len(m.asked) - m.answered }

// due is when it is due, if ever.
func (m *model) due() (int64, bool) {
	if m.conf.Every == 0 {
		return 0, false
	}
	from := m.began
	if len(m.asked) > 0 {
		from = m.asked[len(m.asked)-1]
	}
	return from + int64(m.conf.Every), true
}

// view is what the model tells of itself.
func (m *model) view() view {
	v := view{dead: m.dead, missed: m.missed()}
	if when, is := m.due(); is && !m.dead {
		v.at, v.is = when, true
	}
	return v
}

// tick is a time.
func (m *model) tick(now int64) reply {
	if now < m.now || now > last {
		return no(api.ErrArg)
	}
	m.now = now
	when, is := m.due()
	if !is || now < when || m.dead {
		return none()
	}
	if m.missed() >= m.conf.Most {
		m.dead = true
		return none()
	}
	m.asked = append(m.asked, now)
	return sends(request(id(len(m.asked)), be(m.magic)))
}

// get is a packet.
func (m *model) get(p api.Packet) reply {
	switch {
	case p.Code != 9 && p.Code != 10 && p.Code != 11:
		return no(api.ErrType)
	case len(p.Data) < 4:
		return no(api.ErrEnd)
	case m.magic > 0 && strings.HasPrefix(p.Data, be(m.magic)):
		return no(api.ErrLoop)
	case p.Code == 9:
		return sends(answer(p.Id, be(m.magic)+p.Data[4:]))
	case p.Code == 11:
		return none()
	case len(m.asked) == 0 || p.Id != id(len(m.asked)):
		return no(api.ErrNone)
	}
	m.answered = len(m.asked)
	return none()
}

// do is a step.
func (m *model) do(s step) reply {
	if s.is {
		return m.get(s.p)
	}
	return m.tick(s.now)
}

// both does a step to an echo and to its model, and tells what is not the same.
func both(t *testing.T, e *Echo, m *model, s step) string {
	t.Helper()
	got, want := s.does(e), m.do(s)
	if !got.same(want) {
		return fmt.Sprintf("of %v comes %v, not %v", s, got, want)
	}
	if got, want := look(t, e), m.view(); got != want {
		return fmt.Sprintf("behind %v it is %v, not %v", s, got, want)
	}
	return ""
}

// steps is one of every kind, for where the model is.
func (m *model) steps() []step {
	when, _ := m.due()
	n := len(m.asked)
	other := be(m.magic ^ 0x01000000)
	return []step{
		at(m.now - 1), at(m.now), at(m.now + 1), at(when - 1), at(when), at(when + 1), at(when + 5),
		at(-1), at(last), at(last + 1), at(math.MinInt64), at(math.MaxInt64),
		gets(answer(id(n), other)), gets(answer(id(n), other+"x")), gets(answer(id(n+255), other)), gets(answer(id(n+1), other)),
		gets(answer(id(n), be(m.magic))), gets(answer(id(n), other[:3])), gets(answer(0, be(0))),
		gets(request(id(n), other+"ab")), gets(request(7, be(m.magic)+"ab")), gets(request(8, "")),
		gets(discard(id(n), other)), gets(discard(id(n), be(m.magic))), gets(discard(0, "abc")),
		gets(pkt(8, id(n), other)), gets(pkt(12, id(n), "")),
	}
}

// made is an echo, and its model.
func made(t *testing.T, c api.EchoConf, magic uint32, now int64) (*Echo, *model) {
	t.Helper()
	return must(t, c, magic, now), &model{conf: c, magic: magic, began: now, now: now}
}

// kinds are small configurations, magic numbers, and beginnings.
func kinds(do func(c api.EchoConf, magic uint32, now int64)) {
	for every := range 4 {
		for most := 1; most <= 3; most++ {
			for _, magic := range []uint32{0, 0x01020304} {
				for _, now := range []int64{0, 100, last - 5} {
					do(conf(every, most), magic, now)
				}
			}
		}
	}
}

// TestP17_1New: each argument at each end of its range and just beyond, with each of the others; nothing beside an error, and nothing has happened.
func TestP17_1New(t *testing.T) {
	everys := []int{math.MinInt, -100000, -1, 0, 1, 2, 99999, 100000, 100001, math.MaxInt, 1 << 32, 1<<32 + 1}
	mosts := []int{math.MinInt, -1, 0, 1, 2, 19, 20, 21, math.MaxInt, 1 << 32, 1<<32 + 1}
	nows := []int64{math.MinInt64, -1, 0, 1, 1 << 32, last - 1, last, last + 1, math.MaxInt64}
	good := 0
	for _, every := range everys {
		for _, most := range mosts {
			for _, now := range nows {
				for _, magic := range []uint32{0, 1, math.MaxUint32} {
					e, wrong := New(conf(every, most), magic, now)
					if every < 0 || every > 100000 || most < 1 || most > 20 || now < 0 || now > 1<<60 {
						if e != nil || wrong != api.ErrArg {
							t.Errorf("New(%d %d, %d, %d): %v", every, most, magic, now, wrong)
						}
						continue
					}
					good++
					want := view{at: now + int64(every), is: true}
					if every == 0 {
						want = view{}
					}
					if e == nil || wrong != api.OK {
						t.Errorf("New(%d %d, %d, %d): %v", every, most, magic, now, wrong)
					} else if got := look(t, e); got != want {
						t.Errorf("New(%d %d, %d, %d) begins as %v", every, most, magic, now, got)
					}
				}
			}
		}
	}
	if good != 5*4*5*3 {
		t.Errorf("%d of them are good", good)
	}
}

// TestP17_1NewKeeps: each number that can be is taken, and is the one by which the echo does.
func TestP17_1NewKeeps(t *testing.T) {
	for every := 1; every <= 100000; every++ {
		e := must(t, conf(every, 1), 7, 3)
		due := int64(3 + every)
		if got := look(t, e); got != (view{due, true, false, 0}) {
			t.Fatalf("Every %d: %v", every, got)
		}
		if got := at(due - 1).does(e); !got.same(none()) {
			t.Fatalf("Every %d: %v ahead of time", every, got)
		}
		if got := at(due).does(e); !got.same(sends(request(1, "\x00\x00\x00\x07"))) {
			t.Fatalf("Every %d: %v in time", every, got)
		}
	}
	for most := 1; most <= 20; most++ {
		e := must(t, conf(3, most), 7, 0)
		for n := 1; n <= most; n++ {
			if got := at(int64(3 * n)).does(e); !got.same(sends(request(uint8(n), "\x00\x00\x00\x07"))) || e.Dead() || e.Missed() != n {
				t.Errorf("Most %d: the %d-th time %v", most, n, got)
			}
		}
		if got := at(int64(3*most + 3)).does(e); !got.same(none()) || !e.Dead() || e.Missed() != most {
			t.Errorf("Most %d: in the end %v", most, got)
		}
	}
}

// TestP17_1NewAlone: two echoes of one configuration have nothing in common.
func TestP17_1NewAlone(t *testing.T) {
	a, b := must(t, conf(2, 2), 7, 0), must(t, conf(2, 2), 7, 0)
	at(2).does(a)
	at(9).does(a)
	if got := look(t, b); got != (view{2, true, false, 0}) {
		t.Errorf("the other one is %v", got)
	}
	if got := at(2).does(b); !got.same(sends(request(1, be(7)))) {
		t.Errorf("the other one sends %v", got)
	}
	if got := look(t, a); got != (view{11, true, false, 2}) {
		t.Errorf("the first one is %v", got)
	}
}

// TestP17_1Next: when it is due, through a life; also beyond the greatest time, and never.
func TestP17_1Next(t *testing.T) {
	follow(t, must(t, conf(10, 2), 7, 5),
		line{at(14), none(), view{15, true, false, 0}},
		line{at(17), sends(request(1, be(7))), view{27, true, false, 1}},
		line{gets(answer(1, be(9))), none(), view{27, true, false, 0}},
		line{at(27), sends(request(2, be(7))), view{37, true, false, 1}},
		line{at(37), sends(request(3, be(7))), view{47, true, false, 2}},
		line{at(47), none(), view{0, false, true, 2}},
	)
	follow(t, must(t, conf(100000, 2), 7, last),
		line{at(last), none(), view{last + 100000, true, false, 0}},
	)
	follow(t, must(t, conf(10, 1), 7, last-10),
		line{at(last - 1), none(), view{last, true, false, 0}},
		line{at(last), sends(request(1, be(7))), view{last + 10, true, false, 1}},
		line{at(last), none(), view{last + 10, true, false, 1}},
	)
	for most := 1; most <= 20; most++ {
		follow(t, must(t, conf(0, most), 7, 5),
			line{at(5), none(), view{}},
			line{gets(answer(0, be(9))), no(api.ErrNone), view{}},
			line{at(last), none(), view{}},
		)
	}
}

// TestP17_1CopyEqual: whatever happened, a copy is equal, and does the same whatever follows.
func TestP17_1CopyEqual(t *testing.T) {
	kinds(func(c api.EchoConf, magic uint32, now int64) {
		r := rand.New(rand.NewSource(int64(c.Every) + now))
		e, m := made(t, c, magic, now)
		for range 60 {
			for _, s := range m.steps() {
				first, second, n := e.Copy(), e.Copy(), m.copy()
				if first == e || first == second || look(t, first) != look(t, e) {
					t.Fatalf("%v: a copy of %v is %v", c, look(t, e), look(t, first))
				}
				if wrong := both(t, first, n, s); wrong != "" {
					t.Fatalf("%v: the first copy: %s", c, wrong)
				}
				if wrong := both(t, second, m.copy(), s); wrong != "" {
					t.Fatalf("%v: the second copy: %s", c, wrong)
				}
			}
			l := m.steps()
			if wrong := both(t, e, m, l[r.Intn(len(l))]); wrong != "" {
				t.Fatalf("%v: %s", c, wrong)
			}
		}
	})
}

// TestP17_1CopyAlone: an echo and its copy, that go different ways, do as if each had been alone from the beginning.
func TestP17_1CopyAlone(t *testing.T) {
	e := must(t, conf(10, 2), 7, 0)
	at(10).does(e)
	c := e.Copy()
	follow(t, e, line{at(20), sends(request(2, be(7))), view{30, true, false, 2}}, line{at(30), none(), view{0, false, true, 2}})
	if got := look(t, c); got != (view{20, true, false, 1}) {
		t.Errorf("the copy became %v", got)
	}
	follow(t, c,
		line{gets(answer(1, be(9))), none(), view{20, true, false, 0}},
		line{at(15), none(), view{20, true, false, 0}},
		line{at(25), sends(request(2, be(7))), view{35, true, false, 1}},
	)
	if got := look(t, e); got != (view{0, false, true, 2}) {
		t.Errorf("by its copy, it became %v", got)
	}
}

// TestP17_1Nil: of nil, everything is nothing, and what has an error (also P17.2, P17.3) has ErrNil, whatever else would be wrong.
func TestP17_1Nil(t *testing.T) {
	var e *Echo
	if got := look(t, e); got != (view{}) {
		t.Errorf("nil is %v", got)
	}
	if got := e.Copy(); got != nil {
		t.Errorf("a copy of nil is %v", got)
	}
	for _, s := range []step{at(0), at(-1), at(last + 1), gets(request(1, "abcd")), gets(answer(1, "")), gets(discard(0, "abcd")), gets(pkt(99, 0, ""))} {
		if got := s.does(e); !got.same(no(api.ErrNil)) {
			t.Errorf("of %v comes %v", s, got)
		}
	}
}

// TestP17_2Example: the chapter's, in each of its ways.
func TestP17_2Example(t *testing.T) {
	e := must(t, conf(10, 2), 7, 0)
	follow(t, e,
		line{at(9), none(), view{10, true, false, 0}},
		line{at(10), sends(request(1, "\x00\x00\x00\x07")), view{20, true, false, 1}},
		line{at(20), sends(request(2, "\x00\x00\x00\x07")), view{30, true, false, 2}},
	)
	follow(t, e.Copy(), line{at(30), none(), view{0, false, true, 2}})
	follow(t, e.Copy(),
		line{gets(answer(2, "\x00\x00\x00\x09")), none(), view{30, true, false, 0}},
		line{at(30), sends(request(3, "\x00\x00\x00\x07")), view{40, true, false, 1}},
	)
	follow(t, e,
		line{gets(answer(2, "\x00\x00\x00\x07")), no(api.ErrLoop), view{30, true, false, 2}},
		line{at(30), none(), view{0, false, true, 2}},
	)
}

// TestP17_2Times: a time that can't be is refused, with no effect; one that was refused, or came with a packet, is not the last one.
func TestP17_2Times(t *testing.T) {
	first := view{110, true, false, 0}
	second := view{120, true, false, 1}
	dead := view{0, false, true, 1}
	follow(t, must(t, conf(10, 1), 7, 100),
		line{at(99), no(api.ErrArg), first},
		line{at(0), no(api.ErrArg), first},
		line{at(-1), no(api.ErrArg), first},
		line{at(math.MinInt64), no(api.ErrArg), first},
		line{at(last + 1), no(api.ErrArg), first},
		line{at(math.MaxInt64), no(api.ErrArg), first},
		line{at(100), none(), first},
		line{at(105), none(), first},
		line{at(104), no(api.ErrArg), first},
		line{at(105), none(), first},
		line{at(110), sends(request(1, be(7))), second},
		line{at(110), none(), second},
		line{at(109), no(api.ErrArg), second},
		line{at(119), none(), second},
		line{at(118), no(api.ErrArg), second},
		line{at(last + 1), no(api.ErrArg), second},
		line{at(120), none(), dead},
		line{at(119), no(api.ErrArg), dead},
		line{at(130), none(), dead},
		line{at(129), no(api.ErrArg), dead},
		line{at(last), none(), dead},
		line{at(last - 1), no(api.ErrArg), dead},
		line{at(last + 1), no(api.ErrArg), dead},
		line{at(last), none(), dead},
	)
	follow(t, must(t, conf(0, 1), 7, 100),
		line{at(99), no(api.ErrArg), view{}},
		line{at(102), none(), view{}},
		line{at(101), no(api.ErrArg), view{}},
	)
}

// TestP17_2Late: however late a tick is, one request is sent, and the next one is due Every ticks later.
func TestP17_2Late(t *testing.T) {
	follow(t, must(t, conf(10, 3), 7, 0),
		line{at(95), sends(request(1, be(7))), view{105, true, false, 1}},
		line{at(100), none(), view{105, true, false, 1}},
		line{at(104), none(), view{105, true, false, 1}},
		line{at(106), sends(request(2, be(7))), view{116, true, false, 2}},
		line{gets(answer(2, be(9))), none(), view{116, true, false, 0}},
		line{at(last - 10), sends(request(3, be(7))), view{last, true, false, 1}},
		line{at(last), sends(request(4, be(7))), view{last + 10, true, false, 2}},
	)
	follow(t, must(t, conf(1, 1), 7, 0),
		line{at(last), sends(request(1, be(7))), view{last + 1, true, false, 1}},
		line{at(last), none(), view{last + 1, true, false, 1}},
	)
}

// TestP17_2Ids: identifiers go from 1 to 255, then 0, and on, also where answers are wanting; the data is the magic number.
func TestP17_2Ids(t *testing.T) {
	for _, magic := range []uint32{0, 1, 0x7f, 0x80, 0x01020304, 0xff000000, math.MaxUint32} {
		e := must(t, conf(1, 3), magic, 0)
		for n := 1; n <= 1000; n++ {
			want := request(uint8(n%256), be(magic))
			if got := at(int64(n)).does(e); !got.same(sends(want)) {
				t.Fatalf("%d: the %d-th request is %v", magic, n, got)
			}
			if n%3 == 0 {
				if got := gets(answer(want.Id, be(magic^1))).does(e); !got.same(none()) || e.Missed() != 0 {
					t.Fatalf("%d: the answer to the %d-th request: %v", magic, n, got)
				}
			}
		}
	}
}

// TestP17_3Errors: every code, with data of each length around four, that begin with the own magic number or not: which error comes first, and that it has no effect.
func TestP17_3Errors(t *testing.T) {
	e, m := made(t, conf(10, 3), 0x61626364, 0)
	both(t, e, m, at(10))
	for code := range 256 {
		for _, data := range []string{"", "a", "ab", "abc", "abcd", "abce", "abcdx", "abcex", "xbcd", strings.Repeat("abcd", 400)} {
			for _, n := range []uint8{0, 1, 2, 255} {
				c, x := e.Copy(), m.copy()
				if wrong := both(t, c, x, gets(pkt(uint8(code), n, data))); wrong != "" {
					t.Error(wrong)
				}
				if wrong := both(t, c, x, at(20)); wrong != "" {
					t.Errorf("behind code %d: %s", code, wrong)
				}
			}
		}
	}
	is := view{20, true, false, 1}
	follow(t, e,
		line{gets(pkt(0, 1, "")), no(api.ErrType), is},
		line{gets(pkt(8, 1, "abcd")), no(api.ErrType), is},
		line{gets(pkt(12, 1, "abce")), no(api.ErrType), is},
		line{gets(request(1, "abc")), no(api.ErrEnd), is},
		line{gets(answer(9, "abc")), no(api.ErrEnd), is},
		line{gets(discard(1, "")), no(api.ErrEnd), is},
		line{gets(request(1, "abcd")), no(api.ErrLoop), is},
		line{gets(answer(9, "abcd")), no(api.ErrLoop), is},
		line{gets(discard(1, "abcdx")), no(api.ErrLoop), is},
		line{gets(answer(9, "abce")), no(api.ErrNone), is},
	)
}

// TestP17_3Request: the answer has the request's identifier, and its data behind the magic number, however many these are.
func TestP17_3Request(t *testing.T) {
	for _, magic := range []uint32{0, 1, 0x01020304, 0x80000000, math.MaxUint32} {
		e := must(t, conf(10, 3), magic, 0)
		for n := range 256 {
			rest := strings.Repeat(string([]byte{byte(n)}), n)
			if got, want := gets(request(uint8(n), be(magic^2)+rest)).does(e), answer(uint8(n), be(magic)+rest); !got.same(sends(want)) {
				t.Fatalf("%d: the request %d is answered %v", magic, n, got)
			}
		}
		for _, n := range []int{1490, 1492, 1496, 1500, 70000} {
			rest := strings.Repeat("x", n)
			if got := gets(request(3, "abcd"+rest)).does(e); !got.same(sends(answer(3, be(magic)+rest))) {
				t.Errorf("%d: a request of %d more bytes is answered otherwise", magic, n)
			}
		}
		if got := look(t, e); got != (view{10, true, false, 0}) {
			t.Errorf("%d: it became %v", magic, got)
		}
	}
}

// TestP17_3Loop: all four bytes must be the own magic number's, and that not 0.
func TestP17_3Loop(t *testing.T) {
	for _, magic := range []uint32{1, 0x01020304, 0x80000000, math.MaxUint32} {
		e := must(t, conf(10, 3), magic, 0)
		at(10).does(e)
		for _, p := range []api.Packet{request(1, be(magic)), answer(1, be(magic)), discard(1, be(magic)+"abcd")} {
			if got := gets(p).does(e); !got.same(no(api.ErrLoop)) || e.Missed() != 1 {
				t.Errorf("%08x: %q: %v", magic, p, got)
			}
		}
		for bit := range 32 {
			p := request(1, be(magic^1<<bit)+be(magic))
			if got := gets(p).does(e); !got.same(sends(answer(1, be(magic)+be(magic)))) {
				t.Errorf("%08x: %q: %v", magic, p, got)
			}
		}
		if got := gets(answer(1, be(0))).does(e); !got.same(none()) || e.Missed() != 0 {
			t.Errorf("%08x: an answer without a magic number: %v", magic, got)
		}
	}
	follow(t, must(t, conf(10, 3), 0, 0),
		line{at(10), sends(request(1, be(0))), view{20, true, false, 1}},
		line{gets(request(4, be(0)+"x")), sends(answer(4, be(0)+"x")), view{20, true, false, 1}},
		line{gets(discard(4, be(0))), none(), view{20, true, false, 1}},
		line{gets(answer(1, be(0))), none(), view{20, true, false, 0}},
	)
}

// TestP17_3Answer: only one to the last request counts, as often as it comes; before the first request none does.
func TestP17_3Answer(t *testing.T) {
	e := must(t, conf(1, 20), 7, 0)
	for sent := range 20 {
		for n := range 256 {
			c := e.Copy()
			got := gets(answer(uint8(n), be(9)+"x")).does(c)
			if sent > 0 && n == sent {
				if !got.same(none()) || look(t, c) != (view{int64(sent + 1), true, false, 0}) {
					t.Errorf("of %d, the answer %d: %v, %v", sent, n, got, look(t, c))
				}
				if again := gets(answer(uint8(n), be(9))).does(c); !again.same(none()) || c.Missed() != 0 {
					t.Errorf("of %d, the answer %d once more: %v", sent, n, again)
				}
				continue
			}
			if !got.same(no(api.ErrNone)) || look(t, c) != look(t, e) {
				t.Errorf("of %d, the answer %d: %v, %v", sent, n, got, look(t, c))
			}
		}
		at(int64(sent + 1)).does(e)
	}
	// A 256-th request has the identifier 0, which before the first one was nobody's.
	e = must(t, conf(1, 1), 7, 0)
	for n := 1; n < 256; n++ {
		at(int64(n)).does(e)
		gets(answer(uint8(n), be(9))).does(e)
	}
	follow(t, e,
		line{gets(answer(0, be(9))), no(api.ErrNone), view{256, true, false, 0}},
		line{at(256), sends(request(0, be(7))), view{257, true, false, 1}},
		line{gets(answer(255, be(9))), no(api.ErrNone), view{257, true, false, 1}},
		line{gets(answer(0, be(9))), none(), view{257, true, false, 0}},
		line{at(257), sends(request(1, be(7))), view{258, true, false, 1}},
		line{at(258), none(), view{0, false, true, 1}},
	)
}

// TestP17_3Discard: it does nothing, whatever its identifier is.
func TestP17_3Discard(t *testing.T) {
	e := must(t, conf(10, 3), 7, 0)
	at(10).does(e)
	for n := range 256 {
		if got := gets(discard(uint8(n), "abcd"+strings.Repeat("x", n))).does(e); !got.same(none()) || look(t, e) != (view{20, true, false, 1}) {
			t.Errorf("a discard %d: %v, %v", n, got, look(t, e))
		}
	}
}

// TestP17_3Dead: a dead one still answers and hears, but remains dead, and sends nothing of itself.
func TestP17_3Dead(t *testing.T) {
	dead, heard := view{0, false, true, 2}, view{0, false, true, 0}
	follow(t, must(t, conf(10, 2), 7, 0),
		line{at(10), sends(request(1, be(7))), view{20, true, false, 1}},
		line{at(20), sends(request(2, be(7))), view{30, true, false, 2}},
		line{at(31), none(), dead},
		line{gets(request(5, be(9)+"x")), sends(answer(5, be(7)+"x")), dead},
		line{gets(request(5, be(7))), no(api.ErrLoop), dead},
		line{gets(discard(5, be(9))), none(), dead},
		line{gets(pkt(1, 5, be(9))), no(api.ErrType), dead},
		line{gets(answer(2, "abc")), no(api.ErrEnd), dead},
		line{gets(answer(1, be(9))), no(api.ErrNone), dead},
		line{gets(answer(3, be(9))), no(api.ErrNone), dead},
		line{gets(answer(2, be(7))), no(api.ErrLoop), dead},
		line{at(100), none(), dead},
		line{gets(answer(2, be(9))), none(), heard},
		line{at(110), none(), heard},
		line{at(last), none(), heard},
		line{gets(request(6, be(9))), sends(answer(6, be(7))), heard},
	)
}

// TestP17_3OwnMemory: what is returned (also P17.2) may be changed without effect.
func TestP17_3OwnMemory(t *testing.T) {
	e := must(t, conf(10, 3), 7, 0)
	first, _ := e.Tick(10)
	first[0] = pkt(99, 99, "x")
	reply, _ := e.Packet(request(1, be(9)))
	reply[0] = pkt(99, 99, "x")
	follow(t, e,
		line{gets(answer(1, be(9))), none(), view{20, true, false, 0}},
		line{gets(request(1, be(9))), sends(answer(1, be(7))), view{20, true, false, 0}},
		line{at(20), sends(request(2, be(7))), view{30, true, false, 1}},
	)
}

// TestP17_2Rows: all rows of three steps of every kind, as the chapter's words have it (P17.2, P17.3).
func TestP17_2Rows(t *testing.T) {
	kinds(func(c api.EchoConf, magic uint32, now int64) {
		var on func(e *Echo, m *model, row []step)
		on = func(e *Echo, m *model, row []step) {
			if len(row) == 3 {
				return
			}
			for _, s := range m.steps() {
				d, n, way := e.Copy(), m.copy(), append(slices.Clone(row), s)
				if wrong := both(t, d, n, s); wrong != "" {
					t.Fatalf("%v, magic %d, from %d: %v: %s", c, magic, now, way, wrong)
				}
				on(d, n, way)
			}
		}
		e, m := made(t, c, magic, now)
		on(e, m, nil)
	})
}

// TestP17_2Walks: long random rows, as the chapter's words have it (P17.2, P17.3); what keeps it alive comes often.
func TestP17_2Walks(t *testing.T) {
	long, died := 0, 0
	for i := range 400 {
		r := rand.New(rand.NewSource(int64(i)))
		e, m := made(t, conf(r.Intn(4), 1+r.Intn(8)), r.Uint32()>>r.Intn(33), int64(r.Intn(50)))
		for n := range 1200 {
			l := m.steps()
			s := at(m.now + int64(r.Intn(4)))
			switch r.Intn(10) {
			case 0, 1, 2, 3:
				s = gets(answer(id(len(m.asked)), be(m.magic^1)))
			case 4:
				s = l[r.Intn(len(l))]
				if s == at(last) && n < 1190 {
					continue
				}
			}
			if wrong := both(t, e, m, s); wrong != "" {
				t.Fatalf("row %d: %v: %s", i, m.conf, wrong)
			}
		}
		if len(m.asked) > 256 {
			long++
		}
		if m.dead {
			died++
		}
	}
	if long < 20 || died < 20 || died > 380 {
		t.Errorf("%d rows were long, %d died", long, died)
	}
}

// TestP17_4Dead: along random rows, it is dead exactly if it was due once more after Most consecutive requests without an answer to the last one, as it is seen from outside.
func TestP17_4Dead(t *testing.T) {
	died := 0
	for i := range 2000 {
		r := rand.New(rand.NewSource(int64(i)))
		c := conf(1+r.Intn(5), 1+r.Intn(8))
		e := must(t, c, 7, 0)
		var now, sent int64 // and when the last request was sent
		n, lastId, dead := 0, uint8(0), false
		for range 100 {
			if r.Intn(3) == 0 {
				to := lastId - uint8(r.Intn(2))
				if e.Packet(answer(to, be(9))); to == lastId {
					n = 0
				}
			} else {
				now += int64(r.Intn(4))
				due := now >= sent+int64(c.Every)
				dead = dead || due && n == c.Most
				l, _ := e.Tick(now)
				if (len(l) == 1) != (due && !dead) {
					t.Fatalf("row %d: at %d %q is sent", i, now, l)
				}
				if len(l) == 1 {
					n++
					sent, lastId = now, l[0].Id
				}
			}
			if e.Dead() != dead {
				t.Fatalf("row %d: at %d, behind %d without an answer, Dead() = %v", i, now, n, e.Dead())
			}
		}
		if dead {
			died++
		}
	}
	if died < 200 || died > 1800 {
		t.Errorf("%d died", died)
	}
}

// TestP17_4Peer: what two echoes send to each other is taken, and keeps both alive, unless they have one magic number; that is a loop.
func TestP17_4Peer(t *testing.T) {
	numbers := []uint32{0, 1, 2, 0x01000000, 0x80000000, math.MaxUint32}
	for _, x := range numbers {
		for _, y := range numbers {
			a, b := must(t, conf(3, 2), x, 0), must(t, conf(5, 1), y, 0)
			cross := func(now int64, from, to *Echo) {
				l, _ := from.Tick(now)
				for _, p := range l {
					p.Data += strings.Repeat("d", int(now%7))
					got := gets(p).does(to)
					if x == y && x != 0 {
						if !got.same(no(api.ErrLoop)) {
							t.Fatalf("%d and %d: of %q comes %v", x, y, p, got)
						}
						continue
					}
					if got.e != api.OK || len(got.l) != 1 {
						t.Fatalf("%d and %d: of %q comes %v", x, y, p, got)
					}
					if back := gets(got.l[0]).does(from); !back.same(none()) || from.Missed() != 0 {
						t.Fatalf("%d and %d: of %q comes %v", x, y, got.l[0], back)
					}
				}
			}
			for now := int64(1); now < 2000; now++ {
				cross(now, a, b)
				cross(now, b, a)
			}
			if loop := x == y && x != 0; a.Dead() != loop || b.Dead() != loop {
				t.Errorf("%d and %d: dead are %v, %v", x, y, a.Dead(), b.Dead())
			}
		}
	}
}

// TestP17_4Looped: on a link that brings back whatever is sent, nothing is taken for an answer, and the echo dies.
func TestP17_4Looped(t *testing.T) {
	e := must(t, conf(2, 3), 5, 0)
	for now := int64(1); now < 100; now++ {
		l, _ := e.Tick(now)
		for _, p := range l {
			if got := gets(p).does(e); !got.same(no(api.ErrLoop)) {
				t.Errorf("of %q comes %v", p, got)
			}
		}
	}
	if got := look(t, e); got != (view{0, false, true, 3}) {
		t.Errorf("it is %v", got)
	}
}
