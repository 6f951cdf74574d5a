package auto

import (
	"math"
	"testing"

	"halyard/api"
	"halyard/fsm"
)

// tick stands in a row of events for a tick; it is no event's number.
const tick = 200

// answer is what Event or Tick returns: of Event the error, of Tick whether the timer expired.
type answer struct {
	actions uint16
	e       api.Errno
	timeout bool
}

// do passes an event, or a tick, to an automaton.
func do(a *Auto, ev uint8) answer {
	if ev == tick {
		s, timeout := a.Tick()
		return answer{actions: s, timeout: timeout}
	}
	s, e := a.Event(ev)
	return answer{actions: s, e: e}
}

// view is what an automaton tells of itself.
type view struct {
	state         uint8
	counter, left int
}

// look asks an automaton, twice and in another order, so that asking that changes something is seen.
func look(t *testing.T, a *Auto) view {
	t.Helper()
	first := view{a.State(), a.Counter(), a.Left()}
	left, counter, state := a.Left(), a.Counter(), a.State()
	if again := (view{state, counter, left}); again != first {
		t.Fatalf("asked again, %v is %v", first, again)
	}
	return first
}

// automaton is New's, which must be there.
func automaton(t *testing.T, c api.AutoConf) *Auto {
	t.Helper()
	a, e := New(c)
	if e != api.OK || a == nil {
		t.Fatalf("New(%v): %v", c, e)
	}
	return a
}

// driven is an automaton that a row of events, each of which can occur, brought this far.
func driven(t *testing.T, c api.AutoConf, row ...uint8) *Auto {
	t.Helper()
	a := automaton(t, c)
	for i, ev := range row {
		if got := do(a, ev); got.e != api.OK {
			t.Fatalf("%v: event %d: %v", row, i, got.e)
		}
	}
	return a
}

// ticks is a row of so many ticks.
func ticks(n int) []uint8 {
	l := make([]uint8, n)
	for i := range l {
		l[i] = tick
	}
	return l
}

// ways are rows of events that bring an automaton into each state, none of them with a tick.
func ways() [api.States][]uint8 {
	up := func(l ...uint8) []uint8 { return append([]uint8{api.EvOpen, api.EvUp}, l...) }
	return [api.States][]uint8{
		api.StInitial:  {},
		api.StStarting: {api.EvOpen},
		api.StClosed:   {api.EvUp},
		api.StStopped:  up(api.EvRxjNo),
		api.StClosing:  up(api.EvClose),
		api.StStopping: up(api.EvRca, api.EvRcrUp, api.EvRtr),
		api.StReqSent:  up(),
		api.StAckRcvd:  up(api.EvRca),
		api.StAckSent:  up(api.EvRcrUp),
		api.StOpened:   up(api.EvRcrUp, api.EvRca),
	}
}

// model is an automaton, word by word as the chapter defines it.
type model struct {
	conf    api.AutoConf
	state   uint8
	counter int
	runs    bool
	left    int
}

// set is that the timer is set to Restart.
func (m *model) set() {
	m.runs, m.left = true, m.conf.Restart
}

// occur is that an event occurs; wasSet is whether it set the timer.
func (m *model) occur(ev uint8) (got answer, wasSet bool) {
	set, next, e := fsm.Next(m.state, ev)
	if e != api.OK {
		return answer{e: e}, false
	}
	for bit := uint16(1); bit != 0; bit *= 2 {
		switch bit & set {
		case api.ActIrc:
			m.counter = m.conf.MaxConf
			if set&api.ActStr > 0 {
				m.counter = m.conf.MaxTerm
			}
		case api.ActZrc:
			m.counter, wasSet = 0, true
			m.set()
		case api.ActScr, api.ActStr:
			if m.counter > 0 {
				m.counter--
			}
			wasSet = true
			m.set()
		}
	}
	m.state = next
	switch next {
	case api.StClosing, api.StStopping, api.StReqSent, api.StAckRcvd, api.StAckSent:
	default:
		m.runs, m.left = false, 0
	}
	return answer{actions: set}, wasSet
}

// tick is a tick.
func (m *model) tick() answer {
	if !m.runs {
		return answer{}
	}
	m.left--
	if m.left > 0 {
		return answer{}
	}
	m.runs = false
	ev := uint8(api.EvToEnd)
	if m.counter > 0 {
		ev = api.EvToUp
	}
	got, wasSet := m.occur(ev)
	if !wasSet && fsm.Timed(m.state) {
		m.set()
	}
	return answer{actions: got.actions, timeout: true}
}

// do is what an automaton answers to an event that is passed to it, or to a tick.
func (m *model) do(ev uint8) answer {
	if ev == tick {
		return m.tick()
	}
	if ev > 15 || ev == api.EvToUp || ev == api.EvToEnd {
		return answer{e: api.ErrArg}
	}
	got, _ := m.occur(ev)
	return got
}

// view is what the model tells of itself.
func (m *model) view() view {
	return view{m.state, m.counter, m.left}
}

// confs are small ones, in each of which another number is the greatest, the least, or the same.
func confs() []api.AutoConf {
	var l []api.AutoConf
	for restart := 1; restart <= 3; restart++ {
		for maxConf := 1; maxConf <= 3; maxConf++ {
			for maxTerm := 1; maxTerm <= 3; maxTerm++ {
				l = append(l, api.AutoConf{Restart: restart, MaxConf: maxConf, MaxTerm: maxTerm})
			}
		}
	}
	return l
}

// everyInput is each event's number, some that are none, and a tick.
func everyInput() []uint8 {
	l := []uint8{tick, api.FsmEvs, 17, 127, 128, 255}
	for ev := range uint8(api.FsmEvs) {
		l = append(l, ev)
	}
	return l
}

// reached are all automatons that any row of events and ticks can make of a conf's, one of each.
func reached(t *testing.T, c api.AutoConf) []*Auto {
	t.Helper()
	first := automaton(t, c)
	seen := map[view]bool{look(t, first): true}
	l := []*Auto{first}
	for i := 0; i < len(l); i++ {
		for _, in := range everyInput() {
			next := l[i].Copy()
			do(next, in)
			if v := look(t, next); !seen[v] {
				seen[v] = true
				l = append(l, next)
			}
		}
	}
	return l
}

// TestP13_1New: each field at each end of its range and just beyond, alone and together; nothing beside an error, and nothing has happened.
func TestP13_1New(t *testing.T) {
	restarts := []int{math.MinInt, -1000, -1, 0, 1, 2, 20, 21, 999, 1000, 1001, math.MaxInt, 1 << 32, 1<<32 + 1}
	tries := []int{math.MinInt, -20, -1, 0, 1, 2, 19, 20, 21, 1000, math.MaxInt, 1 << 32, 1<<32 + 1}
	good := 0
	for _, restart := range restarts {
		for _, maxConf := range tries {
			for _, maxTerm := range tries {
				c := api.AutoConf{Restart: restart, MaxConf: maxConf, MaxTerm: maxTerm}
				a, e := New(c)
				if restart < 1 || restart > 1000 || maxConf < 1 || maxConf > 20 || maxTerm < 1 || maxTerm > 20 {
					if a != nil || e != api.ErrArg {
						t.Errorf("New(%v) = %v, %v", c, a, e)
					}
					continue
				}
				good++
				if a == nil || e != api.OK {
					t.Errorf("New(%v): %v", c, e)
				} else if v := look(t, a); v != (view{}) {
					t.Errorf("New(%v) begins as %v", c, v)
				}
			}
		}
	}
	if good != 6*4*4 {
		t.Errorf("%d of them are good", good)
	}
}

// TestP13_1NewKeeps: each number of each field that can be is taken, and is the one by which the automaton does.
func TestP13_1NewKeeps(t *testing.T) {
	for n := 1; n <= 1000; n++ {
		a := driven(t, api.AutoConf{Restart: n, MaxConf: 2, MaxTerm: 3}, api.EvOpen, api.EvUp)
		if got, want := look(t, a), (view{api.StReqSent, 1, n}); got != want {
			t.Errorf("Restart %d: %v", n, got)
		}
	}
	for n := 1; n <= 20; n++ {
		a := driven(t, api.AutoConf{Restart: 7, MaxConf: n, MaxTerm: 21 - n}, api.EvOpen, api.EvUp)
		if got, want := look(t, a), (view{api.StReqSent, n - 1, 7}); got != want {
			t.Errorf("MaxConf %d: %v", n, got)
		}
		a = driven(t, api.AutoConf{Restart: 7, MaxConf: 21 - n, MaxTerm: n}, api.EvOpen, api.EvUp, api.EvClose)
		if got, want := look(t, a), (view{api.StClosing, n - 1, 7}); got != want {
			t.Errorf("MaxTerm %d: %v", n, got)
		}
	}
}

// TestP13_1NewAlone: two automatons of one conf have nothing in common.
func TestP13_1NewAlone(t *testing.T) {
	c := api.AutoConf{Restart: 3, MaxConf: 2, MaxTerm: 1}
	a, b := automaton(t, c), automaton(t, c)
	do(a, api.EvOpen)
	do(a, api.EvUp)
	if got := look(t, b); got != (view{}) {
		t.Errorf("the other one is %v", got)
	}
	do(b, api.EvUp)
	if got, want := look(t, a), (view{api.StReqSent, 1, 3}); got != want {
		t.Errorf("the first one is %v", got)
	}
}

// TestP13_1CopyEqual: whatever happened, a copy is equal, and answers the same to everything that may follow.
func TestP13_1CopyEqual(t *testing.T) {
	for _, c := range confs() {
		for _, a := range reached(t, c) {
			for _, in := range everyInput() {
				first, second := a.Copy(), a.Copy()
				if first == a || first == second || look(t, first) != look(t, a) {
					t.Fatalf("%v: a copy of %v is %v", c, look(t, a), look(t, first))
				}
				if got, want := do(first, in), do(second, in); got != want || look(t, first) != look(t, second) {
					t.Errorf("%v: by %d from %v: %v and %v", c, in, look(t, a), got, want)
				}
			}
		}
	}
}

// TestP13_1CopyAlone: what happens to an automaton does not happen to its copy, nor the other way round.
func TestP13_1CopyAlone(t *testing.T) {
	c := api.AutoConf{Restart: 2, MaxConf: 3, MaxTerm: 2}
	for state, way := range ways() {
		for _, in := range everyInput() {
			a := driven(t, c, way...)
			b := a.Copy()
			was := look(t, a)
			do(a, in)
			if got := look(t, b); got != was {
				t.Errorf("state %d, %d: the copy of %v became %v", state, in, was, got)
			}
			moved := look(t, a)
			do(b, in)
			do(b, tick)
			if got := look(t, a); got != moved {
				t.Errorf("state %d, %d: by its copy, %v became %v", state, in, moved, got)
			}
		}
	}
}

// TestP13_1CopyLong: a copy that goes another way, and the automaton that it is of, do as if each had been alone from the beginning.
func TestP13_1CopyLong(t *testing.T) {
	c := api.AutoConf{Restart: 2, MaxConf: 2, MaxTerm: 2}
	a := driven(t, c, api.EvOpen, api.EvUp, tick)
	b := a.Copy()
	for _, ev := range []uint8{api.EvRcrUp, api.EvRca} {
		do(a, ev)
		do(b, tick)
	}
	if got, want := look(t, a), (view{api.StOpened, 2, 0}); got != want {
		t.Errorf("the automaton is %v, want %v", got, want)
	}
	if got, want := look(t, b), (view{api.StReqSent, 0, 1}); got != want {
		t.Errorf("its copy is %v, want %v", got, want)
	}
}

// TestP13_1Nil: of nil, Copy is nil.
func TestP13_1Nil(t *testing.T) {
	var a *Auto
	if got := a.Copy(); got != nil {
		t.Errorf("Copy() = %v", got)
	}
}

// step is an input, what is answered to it, and what the automaton is behind it.
type step struct {
	in   uint8
	want answer
	is   view
}

// follow passes a row of inputs to a new automaton, and holds it against what is written.
func follow(t *testing.T, c api.AutoConf, row ...step) {
	t.Helper()
	a := automaton(t, c)
	for i, s := range row {
		if got := do(a, s.in); got != s.want {
			t.Fatalf("%d: %d is answered %v, want %v", i, s.in, got, s.want)
		}
		if got := look(t, a); got != s.is {
			t.Fatalf("%d: behind %d it is %v, want %v", i, s.in, got, s.is)
		}
	}
}

// acts is what is answered to an event that occurs: these actions; expired the same of a tick at which the timer expires; no an error.
func acts(actions uint16) answer    { return answer{actions: actions} }
func expired(actions uint16) answer { return answer{actions: actions, timeout: true} }
func no(e api.Errno) answer         { return answer{e: e} }

// TestP13_2Example: the chapter's, whole.
func TestP13_2Example(t *testing.T) {
	follow(t, api.AutoConf{Restart: 3, MaxConf: 2, MaxTerm: 1},
		step{api.EvOpen, acts(api.ActTls), view{api.StStarting, 0, 0}},
		step{api.EvUp, acts(api.ActIrc | api.ActScr), view{api.StReqSent, 1, 3}},
		step{tick, answer{}, view{api.StReqSent, 1, 2}},
		step{tick, answer{}, view{api.StReqSent, 1, 1}},
		step{tick, expired(api.ActScr), view{api.StReqSent, 0, 3}},
		step{tick, answer{}, view{api.StReqSent, 0, 2}},
		step{tick, answer{}, view{api.StReqSent, 0, 1}},
		step{tick, expired(api.ActTlf), view{api.StStopped, 0, 0}},
		step{tick, answer{}, view{api.StStopped, 0, 0}},
	)
}

// TestP13_2Opens: a row to Opened and back, with ticks; the timer continues where an event does not set it, and the counter is set by irc alone.
func TestP13_2Opens(t *testing.T) {
	follow(t, api.AutoConf{Restart: 4, MaxConf: 5, MaxTerm: 3},
		step{tick, answer{}, view{api.StInitial, 0, 0}},
		step{api.EvUp, acts(0), view{api.StClosed, 0, 0}},
		step{tick, answer{}, view{api.StClosed, 0, 0}},
		step{api.EvOpen, acts(api.ActIrc | api.ActScr), view{api.StReqSent, 4, 4}},
		step{tick, answer{}, view{api.StReqSent, 4, 3}},
		step{api.EvRcrNo, acts(api.ActScn), view{api.StReqSent, 4, 3}},
		step{api.EvRuc, acts(api.ActScj), view{api.StReqSent, 4, 3}},
		step{api.EvRtr, acts(api.ActSta), view{api.StReqSent, 4, 3}},
		step{api.EvUp, no(api.ErrNever), view{api.StReqSent, 4, 3}},
		step{tick, answer{}, view{api.StReqSent, 4, 2}},
		step{api.EvRcrUp, acts(api.ActSca), view{api.StAckSent, 4, 2}},
		step{tick, answer{}, view{api.StAckSent, 4, 1}},
		step{tick, expired(api.ActScr), view{api.StAckSent, 3, 4}},
		step{api.EvRcn, acts(api.ActIrc | api.ActScr), view{api.StAckSent, 4, 4}},
		step{tick, answer{}, view{api.StAckSent, 4, 3}},
		step{api.EvRca, acts(api.ActTlu | api.ActIrc), view{api.StOpened, 5, 0}},
		step{tick, answer{}, view{api.StOpened, 5, 0}},
		step{api.EvRxr, acts(api.ActSer), view{api.StOpened, 5, 0}},
		step{api.EvRcrUp, acts(api.ActTld | api.ActScr | api.ActSca), view{api.StAckSent, 4, 4}},
		step{tick, answer{}, view{api.StAckSent, 4, 3}},
		step{api.EvDown, acts(0), view{api.StStarting, 4, 0}},
		step{tick, answer{}, view{api.StStarting, 4, 0}},
		step{api.EvClose, acts(api.ActTlf), view{api.StInitial, 4, 0}},
	)
}

// TestP13_2Ack: irc without a request sets the counter and leaves the timer alone.
func TestP13_2Ack(t *testing.T) {
	follow(t, api.AutoConf{Restart: 4, MaxConf: 5, MaxTerm: 3},
		step{api.EvOpen, acts(api.ActTls), view{api.StStarting, 0, 0}},
		step{api.EvUp, acts(api.ActIrc | api.ActScr), view{api.StReqSent, 4, 4}},
		step{tick, answer{}, view{api.StReqSent, 4, 3}},
		step{tick, answer{}, view{api.StReqSent, 4, 2}},
		step{api.EvRca, acts(api.ActIrc), view{api.StAckRcvd, 5, 2}},
		step{api.EvRcrNo, acts(api.ActScn), view{api.StAckRcvd, 5, 2}},
		step{tick, answer{}, view{api.StAckRcvd, 5, 1}},
		step{tick, expired(api.ActScr), view{api.StReqSent, 4, 4}},
		step{api.EvRca, acts(api.ActIrc), view{api.StAckRcvd, 5, 4}},
		step{tick, answer{}, view{api.StAckRcvd, 5, 3}},
		step{api.EvRca, acts(api.ActScr), view{api.StReqSent, 4, 4}},
		step{api.EvRca, acts(api.ActIrc), view{api.StAckRcvd, 5, 4}},
		step{api.EvRcrUp, acts(api.ActTlu | api.ActSca), view{api.StOpened, 5, 0}},
		step{api.EvRta, acts(api.ActTld | api.ActScr), view{api.StReqSent, 4, 4}},
	)
}

// TestP13_2Terminates: irc with str sets the counter to MaxTerm, whether that is less than MaxConf or more; the timer continues from Closing to Stopping.
func TestP13_2Terminates(t *testing.T) {
	for _, maxConf := range []int{1, 2, 3, 20} {
		follow(t, api.AutoConf{Restart: 2, MaxConf: maxConf, MaxTerm: 2},
			step{api.EvUp, acts(0), view{api.StClosed, 0, 0}},
			step{api.EvOpen, acts(api.ActIrc | api.ActScr), view{api.StReqSent, maxConf - 1, 2}},
			step{tick, answer{}, view{api.StReqSent, maxConf - 1, 1}},
			step{api.EvClose, acts(api.ActIrc | api.ActStr), view{api.StClosing, 1, 2}},
			step{tick, answer{}, view{api.StClosing, 1, 1}},
			step{api.EvRcrUp, acts(0), view{api.StClosing, 1, 1}},
			step{api.EvOpen, acts(0), view{api.StStopping, 1, 1}},
			step{tick, expired(api.ActStr), view{api.StStopping, 0, 2}},
			step{tick, answer{}, view{api.StStopping, 0, 1}},
			step{api.EvClose, acts(0), view{api.StClosing, 0, 1}},
			step{tick, expired(api.ActTlf), view{api.StClosed, 0, 0}},
			step{tick, answer{}, view{api.StClosed, 0, 0}},
			step{api.EvRcrUp, acts(api.ActSta), view{api.StClosed, 0, 0}},
		)
	}
}

// TestP13_2Terminated: zrc sets the counter to 0 and the timer to Restart, so that it expires once, and nothing is sent.
func TestP13_2Terminated(t *testing.T) {
	follow(t, api.AutoConf{Restart: 2, MaxConf: 20, MaxTerm: 20},
		step{api.EvOpen, acts(api.ActTls), view{api.StStarting, 0, 0}},
		step{api.EvUp, acts(api.ActIrc | api.ActScr), view{api.StReqSent, 19, 2}},
		step{api.EvRcrUp, acts(api.ActSca), view{api.StAckSent, 19, 2}},
		step{api.EvRca, acts(api.ActTlu | api.ActIrc), view{api.StOpened, 20, 0}},
		step{api.EvRtr, acts(api.ActTld | api.ActZrc | api.ActSta), view{api.StStopping, 0, 2}},
		step{api.EvRtr, acts(api.ActSta), view{api.StStopping, 0, 2}},
		step{tick, answer{}, view{api.StStopping, 0, 1}},
		step{tick, expired(api.ActTlf), view{api.StStopped, 0, 0}},
		step{api.EvRcrUp, acts(api.ActIrc | api.ActScr | api.ActSca), view{api.StAckSent, 19, 2}},
		step{api.EvRxjNo, acts(api.ActTlf), view{api.StStopped, 19, 0}},
	)
}

// TestP13_2Fastest: with a Restart of 1 each tick expires, and with one try nothing is sent again.
func TestP13_2Fastest(t *testing.T) {
	follow(t, api.AutoConf{Restart: 1, MaxConf: 1, MaxTerm: 1},
		step{api.EvOpen, acts(api.ActTls), view{api.StStarting, 0, 0}},
		step{api.EvUp, acts(api.ActIrc | api.ActScr), view{api.StReqSent, 0, 1}},
		step{api.EvRcn, acts(api.ActIrc | api.ActScr), view{api.StReqSent, 0, 1}},
		step{tick, expired(api.ActTlf), view{api.StStopped, 0, 0}},
		step{api.EvRcrNo, acts(api.ActIrc | api.ActScr | api.ActScn), view{api.StReqSent, 0, 1}},
		step{api.EvRca, acts(api.ActIrc), view{api.StAckRcvd, 1, 1}},
		step{api.EvRcn, acts(api.ActScr), view{api.StReqSent, 0, 1}},
		step{api.EvRca, acts(api.ActIrc), view{api.StAckRcvd, 1, 1}},
		step{tick, expired(api.ActScr), view{api.StReqSent, 0, 1}},
		step{api.EvClose, acts(api.ActIrc | api.ActStr), view{api.StClosing, 0, 1}},
		step{tick, expired(api.ActTlf), view{api.StClosed, 0, 0}},
	)
}

// TestP13_2EventRefused: of nil ErrNil, whatever the event; ErrArg of the timer's events and of numbers that are none, in every state; ErrNever where the table has a -. Nothing changes.
func TestP13_2EventRefused(t *testing.T) {
	c := api.AutoConf{Restart: 3, MaxConf: 2, MaxTerm: 1}
	never := 0
	for state, way := range ways() {
		for n := range 256 {
			ev := uint8(n)
			var none *Auto
			if s, e := none.Event(ev); s != 0 || e != api.ErrNil {
				t.Errorf("of nil, Event(%d) = %v, %v", ev, s, e)
			}
			a := driven(t, c, way...)
			was := look(t, a)
			if int(was.state) != state {
				t.Fatalf("%v leads to %v", way, was)
			}
			_, _, want := fsm.Next(was.state, ev)
			if ev == api.EvToUp || ev == api.EvToEnd || ev > 15 {
				want = api.ErrArg
			}
			if want == api.OK {
				continue
			}
			if want == api.ErrNever {
				never++
			}
			if s, e := a.Event(ev); s != 0 || e != want {
				t.Errorf("in %d, Event(%d) = %v, %v, want %v", state, ev, s, e, want)
			}
			if got := look(t, a); got != was {
				t.Errorf("in %d, Event(%d) made %v of %v", state, ev, got, was)
			}
		}
	}
	if never != 30 { // each - of the chapter's table, but those of TO+ and TO-
		t.Errorf("%d times ErrNever", never)
	}
}

// TestP13_2EventTable: in each state each event that can be passed does what the table has, behind a tick too.
func TestP13_2EventTable(t *testing.T) {
	c := api.AutoConf{Restart: 9, MaxConf: 8, MaxTerm: 5}
	for state, way := range ways() {
		for ev := range uint8(api.FsmEvs) {
			set, next, e := fsm.Next(uint8(state), ev)
			if e != api.OK || ev == api.EvToUp || ev == api.EvToEnd {
				continue
			}
			a := driven(t, c, way...)
			do(a, tick)
			if got, e := a.Event(ev); got != set || e != api.OK || a.State() != next {
				t.Errorf("in %d, Event(%d) = %v, %v, to %d; want %v, to %d", state, ev, got, e, a.State(), set, next)
			}
		}
	}
}

// TestP13_2Counter: what each combination of actions that the table has makes of the counter, and of the timer where the next state runs it.
func TestP13_2Counter(t *testing.T) {
	c := api.AutoConf{Restart: 9, MaxConf: 8, MaxTerm: 5}
	for _, begin := range ways() {
		for ev := range uint8(api.FsmEvs) {
			a := driven(t, c, begin...)
			do(a, tick)
			was := look(t, a)
			set, e := a.Event(ev)
			if e != api.OK {
				continue
			}
			want := view{a.State(), was.counter, was.left}
			switch set & (api.ActIrc | api.ActZrc | api.ActScr | api.ActStr) {
			case api.ActIrc:
				want.counter = 8
			case api.ActIrc | api.ActScr:
				want.counter, want.left = 7, 9
			case api.ActIrc | api.ActStr:
				want.counter, want.left = 4, 9
			case api.ActZrc:
				want.counter, want.left = 0, 9
			case api.ActScr, api.ActStr:
				want.counter, want.left = was.counter-1, 9
			}
			if !fsm.Timed(want.state) {
				want.left = 0
			}
			if got := look(t, a); got != want {
				t.Errorf("by %d from %v: %v, want %v", ev, was, got, want)
			}
		}
	}
}

// TestP13_2NotBelowZero: a request at a counter of 0 leaves it there, sets the timer, and begins nothing else; the table has no row of events that comes to that, so that the action is done by itself.
func TestP13_2NotBelowZero(t *testing.T) {
	for _, action := range []uint16{api.ActScr, api.ActStr} {
		a := driven(t, api.AutoConf{Restart: 3, MaxConf: 1, MaxTerm: 1}, api.EvOpen, api.EvUp, tick)
		was := look(t, a)
		effects()[action].do(a, action)
		if got, want := look(t, a), (view{api.StReqSent, 0, 3}); was != (view{api.StReqSent, 0, 2}) || got != want {
			t.Errorf("%d: from %v to %v, want %v", action, was, got, want)
		}
	}
	for _, c := range confs() {
		for _, a := range reached(t, c) {
			if v := look(t, a); v.counter < 0 || v.counter > max(c.MaxConf, c.MaxTerm) || v.left < 0 || v.left > c.Restart {
				t.Errorf("%v: %v is reached", c, v)
			}
		}
	}
}

// TestP13_2OthersReported: only four actions do more than being reported.
func TestP13_2OthersReported(t *testing.T) {
	all := effects()
	if len(all) != 4 {
		t.Errorf("%d actions do something", len(all))
	}
	for _, action := range []uint16{api.ActIrc, api.ActZrc, api.ActScr, api.ActStr} {
		if all[action].do == nil {
			t.Errorf("%d does nothing", action)
		}
	}
}

// TestP13_2TickIdle: where the timer does not run, a tick is nothing, however many there are; nor of nil.
func TestP13_2TickIdle(t *testing.T) {
	c := api.AutoConf{Restart: 1, MaxConf: 2, MaxTerm: 2}
	for _, state := range []int{api.StInitial, api.StStarting, api.StClosed, api.StStopped, api.StOpened} {
		a := driven(t, c, ways()[state]...)
		was := look(t, a)
		for range 50 {
			if got := do(a, tick); got != (answer{}) || look(t, a) != was || was.left != 0 {
				t.Fatalf("a tick at %v: %v, %v", was, got, look(t, a))
			}
		}
	}
	var none *Auto
	if s, timeout := none.Tick(); s != 0 || timeout {
		t.Errorf("of nil, Tick() = %v, %v", s, timeout)
	}
}

// TestP13_2TickRuns: in each state that runs the timer it expires at the tick that leaves none, by TO+ while the counter is greater than 0, then once by TO-.
func TestP13_2TickRuns(t *testing.T) {
	for _, restart := range []int{1, 2, 3, 10, 1000} {
		c := api.AutoConf{Restart: restart, MaxConf: 3, MaxTerm: 2}
		for _, state := range []int{api.StClosing, api.StStopping, api.StReqSent, api.StAckRcvd, api.StAckSent} {
			a := driven(t, c, ways()[state]...)
			for v := look(t, a); v.left > 0; v = look(t, a) {
				ev := uint8(api.EvToEnd)
				if v.counter > 0 {
					ev = api.EvToUp
				}
				want := view{counter: max(v.counter-1, 0), left: restart}
				var set uint16
				set, want.state, _ = fsm.Next(v.state, ev)
				if ev == api.EvToEnd {
					want.left = 0
				}
				for left := restart - 1; left > 0; left-- {
					if got := do(a, tick); got != (answer{}) || look(t, a) != (view{v.state, v.counter, left}) {
						t.Fatalf("%v: %v with %d left at %v", c, got, left, look(t, a))
					}
				}
				if got := do(a, tick); got != expired(set) || look(t, a) != want {
					t.Fatalf("%v: behind %v, %v at %v, want %v", c, v, got, look(t, a), want)
				}
			}
		}
	}
}

// TestP13_2AsDefined: from every automaton that any row of events and ticks can make, with several small confs, every event and a tick do what the definitions say.
func TestP13_2AsDefined(t *testing.T) {
	for _, c := range confs() {
		states := map[uint8]bool{}
		for _, a := range reached(t, c) {
			v := look(t, a)
			states[v.state] = true
			for _, in := range everyInput() {
				m := model{c, v.state, v.counter, v.left > 0, v.left}
				b := a.Copy()
				want := m.do(in)
				if got := do(b, in); got != want || look(t, b) != m.view() {
					t.Errorf("%v: %d at %v: %v, %v; want %v, %v", c, in, v, got, look(t, b), want, m.view())
				}
			}
		}
		if len(states) != api.States {
			t.Errorf("%v: only %d states are reached", c, len(states))
		}
	}
}

// TestP13_2Long: the same in long rows of scrambled events and ticks, that are not cut into steps.
func TestP13_2Long(t *testing.T) {
	x := uint32(1)
	next := func() uint32 {
		x = x*1664525 + 1013904223
		return x >> 16
	}
	for n := range 60 {
		c := api.AutoConf{Restart: 1 + int(next())%[]int{4, 20, 1000}[n%3], MaxConf: 1 + int(next())%20, MaxTerm: 1 + int(next())%20}
		a, m := automaton(t, c), model{conf: c}
		for i := range 2000 {
			in := uint8(next() % 20)
			if in >= 16 || n%2 == 0 && next()%2 == 0 {
				in = tick
			}
			want := m.do(in)
			if got := do(a, in); got != want || look(t, a) != m.view() {
				t.Fatalf("%v, step %d: %d: %v, %v; want %v, %v", c, i, in, got, look(t, a), want, m.view())
			}
		}
	}
}

// TestP13_3Asked: of each state, before, between and behind ticks; asking, in whatever order and however often, changes nothing of what follows.
func TestP13_3Asked(t *testing.T) {
	c := api.AutoConf{Restart: 3, MaxConf: 4, MaxTerm: 2}
	wanted := [api.States]view{
		api.StInitial:  {api.StInitial, 0, 0},
		api.StStarting: {api.StStarting, 0, 0},
		api.StClosed:   {api.StClosed, 0, 0},
		api.StStopped:  {api.StStopped, 3, 0},
		api.StClosing:  {api.StClosing, 1, 3},
		api.StStopping: {api.StStopping, 0, 3},
		api.StReqSent:  {api.StReqSent, 3, 3},
		api.StAckRcvd:  {api.StAckRcvd, 4, 3},
		api.StAckSent:  {api.StAckSent, 3, 3},
		api.StOpened:   {api.StOpened, 4, 0},
	}
	for state, way := range ways() {
		asked, alone := driven(t, c, way...), driven(t, c, way...)
		for range 10 {
			if got := look(t, asked); got != wanted[state] {
				t.Errorf("in %d: %v, want %v", state, got, wanted[state])
			}
		}
		for range 20 {
			look(t, asked)
			asked.Copy()
			if got, want := do(asked, tick), do(alone, tick); got != want {
				t.Errorf("in %d: a tick is %v where it was asked, and %v where it was not", state, got, want)
			}
		}
		if got, want := look(t, asked), look(t, alone); got != want {
			t.Errorf("in %d: asked, it came to %v, and otherwise to %v", state, got, want)
		}
	}
}

// TestP13_3Left: as many ticks as Left says, and no fewer, expire the timer; where it says 0, none does.
func TestP13_3Left(t *testing.T) {
	for _, c := range confs() {
		for _, a := range reached(t, c) {
			left := a.Left()
			for n := 1; n <= left; n++ {
				if _, timeout := a.Tick(); timeout != (n == left) {
					t.Errorf("%v: %d were left, and tick %d says %v", c, left, n, timeout)
				}
			}
			if _, timeout := a.Tick(); left == 0 && timeout {
				t.Errorf("%v: a timer that does not run expired", c)
			}
		}
	}
}

// TestP13_3Nil: of nil, these are 0.
func TestP13_3Nil(t *testing.T) {
	var a *Auto
	if s, c, l := a.State(), a.Counter(), a.Left(); s != 0 || c != 0 || l != 0 {
		t.Errorf("%d, %d, %d", s, c, l)
	}
}

// run is what came of ticks alone: how many there were until the timer stopped, and what was sent by them.
type run struct {
	ticks, confs, terms int
}

// runOut lets ticks occur until the timer stops, at most so many, and then some more, which must do nothing.
func runOut(t *testing.T, a *Auto, most int) run {
	t.Helper()
	var r run
	for a.Left() > 0 {
		if r.ticks == most {
			t.Fatalf("behind %d ticks, the timer runs: %v", most, look(t, a))
		}
		r.ticks++
		set, _ := a.Tick()
		if set&api.ActScr != 0 {
			r.confs++
		}
		if set&api.ActStr != 0 {
			r.terms++
		}
	}
	end := look(t, a)
	for range 30 {
		if got := do(a, tick); got != (answer{}) || look(t, a) != end {
			t.Fatalf("a tick at %v, where the timer has stopped: %v, %v", end, got, look(t, a))
		}
	}
	return r
}

// bound is P13.4's.
func bound(c api.AutoConf) int {
	return c.Restart * (c.MaxConf + c.MaxTerm + 2)
}

// TestP13_4Stops: whatever happened, ticks alone stop the timer within the bound; together with what the last event sent, no more requests follow each other than there may be tries.
func TestP13_4Stops(t *testing.T) {
	for _, c := range confs() {
		for _, a := range reached(t, c) {
			for _, in := range everyInput() {
				b := a.Copy()
				set := do(b, in).actions
				r := runOut(t, b, bound(c))
				if in != tick && set&api.ActScr != 0 {
					r.confs++
				}
				if in != tick && set&api.ActStr != 0 {
					r.terms++
				}
				if r.confs > c.MaxConf || r.terms > c.MaxTerm || r.confs > 0 && r.terms > 0 {
					t.Errorf("%v: by %d at %v, and ticks, %d Configure- and %d Terminate-Requests", c, in, look(t, a), r.confs, r.terms)
				}
			}
		}
	}
}

// TestP13_4Tries: behind each way into a state that runs the timer, exactly as many requests and ticks as its counter has it, with the least and the greatest confs.
func TestP13_4Tries(t *testing.T) {
	for _, c := range []api.AutoConf{
		{Restart: 1, MaxConf: 1, MaxTerm: 1}, {Restart: 1000, MaxConf: 20, MaxTerm: 20}, {Restart: 1000, MaxConf: 1, MaxTerm: 20},
		{Restart: 1, MaxConf: 20, MaxTerm: 1}, {Restart: 7, MaxConf: 5, MaxTerm: 3},
	} {
		for state, want := range map[int]run{
			api.StInitial: {}, api.StStarting: {}, api.StClosed: {}, api.StStopped: {}, api.StOpened: {},
			api.StReqSent:  {c.Restart * c.MaxConf, c.MaxConf - 1, 0},
			api.StAckSent:  {c.Restart * c.MaxConf, c.MaxConf - 1, 0},
			api.StAckRcvd:  {c.Restart * (c.MaxConf + 1), c.MaxConf, 0},
			api.StClosing:  {c.Restart * c.MaxTerm, 0, c.MaxTerm - 1},
			api.StStopping: {c.Restart, 0, 0},
		} {
			if got := runOut(t, driven(t, c, ways()[state]...), bound(c)); got != want {
				t.Errorf("%v, state %d: %v, want %v", c, state, got, want)
			}
		}
	}
}

// TestP13_4Midst: the same where some of the ticks had occurred before the last event.
func TestP13_4Midst(t *testing.T) {
	c := api.AutoConf{Restart: 5, MaxConf: 4, MaxTerm: 3}
	for n := range c.Restart * c.MaxConf {
		a := driven(t, c, append([]uint8{api.EvOpen, api.EvUp}, ticks(n)...)...)
		sent := n / c.Restart
		if got, want := runOut(t, a.Copy(), bound(c)), (run{c.Restart*c.MaxConf - n, c.MaxConf - 1 - sent, 0}); got != want {
			t.Errorf("behind %d ticks: %v, want %v", n, got, want)
		}
		do(a, api.EvClose)
		if got, want := runOut(t, a, bound(c)), (run{c.Restart * c.MaxTerm, 0, c.MaxTerm - 1}); got != want {
			t.Errorf("behind %d ticks and Close: %v, want %v", n, got, want)
		}
	}
}
