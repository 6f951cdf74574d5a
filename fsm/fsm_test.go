package fsm

import (
	"slices"
	"strings"
	"testing"

	"halyard/api"
)

// The chapter's table, in its two parts.
const (
	firstPart = `
| event | Initial | Starting | Closed | Stopped | Closing | Stopping |
|---|---|---|---|---|---|---|
| Up | Closed | irc scr ReqSent | - | - | - | - |
| Down | - | - | Initial | tls Starting | Initial | Starting |
| Open | tls Starting | Starting | irc scr ReqSent | Stopped | Stopping | Stopping |
| Close | Initial | tlf Initial | Closed | Closed | Closing | Closing |
| TO+ | - | - | - | - | str Closing | str Stopping |
| TO- | - | - | - | - | tlf Closed | tlf Stopped |
| RCR+ | - | - | sta Closed | irc scr sca AckSent | Closing | Stopping |
| RCR- | - | - | sta Closed | irc scr scn ReqSent | Closing | Stopping |
| RCA | - | - | sta Closed | sta Stopped | Closing | Stopping |
| RCN | - | - | sta Closed | sta Stopped | Closing | Stopping |
| RTR | - | - | sta Closed | sta Stopped | sta Closing | sta Stopping |
| RTA | - | - | Closed | Stopped | tlf Closed | tlf Stopped |
| RUC | - | - | scj Closed | scj Stopped | scj Closing | scj Stopping |
| RXJ+ | - | - | Closed | Stopped | Closing | Stopping |
| RXJ- | - | - | tlf Closed | tlf Stopped | tlf Closed | tlf Stopped |
| RXR | - | - | Closed | Stopped | Closing | Stopping |
`
	secondPart = `
| event | ReqSent | AckRcvd | AckSent | Opened |
|---|---|---|---|---|
| Up | - | - | - | - |
| Down | Starting | Starting | Starting | tld Starting |
| Open | ReqSent | AckRcvd | AckSent | Opened |
| Close | irc str Closing | irc str Closing | irc str Closing | tld irc str Closing |
| TO+ | scr ReqSent | scr ReqSent | scr AckSent | - |
| TO- | tlf Stopped | tlf Stopped | tlf Stopped | - |
| RCR+ | sca AckSent | tlu sca Opened | sca AckSent | tld scr sca AckSent |
| RCR- | scn ReqSent | scn AckRcvd | scn ReqSent | tld scr scn ReqSent |
| RCA | irc AckRcvd | scr ReqSent | tlu irc Opened | tld scr ReqSent |
| RCN | irc scr ReqSent | scr ReqSent | irc scr AckSent | tld scr ReqSent |
| RTR | sta ReqSent | sta ReqSent | sta ReqSent | tld zrc sta Stopping |
| RTA | ReqSent | ReqSent | AckSent | tld scr ReqSent |
| RUC | scj ReqSent | scj AckRcvd | scj AckSent | scj Opened |
| RXJ+ | ReqSent | ReqSent | AckSent | Opened |
| RXJ- | tlf Stopped | tlf Stopped | tlf Stopped | tld irc str Stopping |
| RXR | ReqSent | AckRcvd | AckSent | ser Opened |
`
)

// The numbers of states, events and actions by their names.
var (
	stateNumbers = map[string]uint8{
		"Initial": 0, "Starting": 1, "Closed": 2, "Stopped": 3, "Closing": 4,
		"Stopping": 5, "ReqSent": 6, "AckRcvd": 7, "AckSent": 8, "Opened": 9,
	}
	eventNumbers = map[string]uint8{
		"Up": 0, "Down": 1, "Open": 2, "Close": 3, "TO+": 4, "TO-": 5, "RCR+": 6, "RCR-": 7,
		"RCA": 8, "RCN": 9, "RTR": 10, "RTA": 11, "RUC": 12, "RXJ+": 13, "RXJ-": 14, "RXR": 15,
	}
	actionBits = map[string]uint16{
		"tlu": 1, "tld": 2, "tls": 4, "tlf": 8, "irc": 16, "zrc": 32, "scr": 64,
		"sca": 128, "scn": 256, "str": 512, "sta": 1024, "scj": 2048, "ser": 4096,
	}
)

// answer is what Next returns.
type answer struct {
	actions uint16
	next    uint8
	e       api.Errno
}

// ask is Next's answer as one value.
func ask(state, event uint8) answer {
	a, n, e := Next(state, event)
	return answer{a, n, e}
}

// fields are what stands between the bars of a table's line.
func fields(line string) []string {
	var l []string
	for _, s := range strings.Split(strings.Trim(line, "|"), "|") {
		l = append(l, strings.TrimSpace(s))
	}
	return l
}

// read is what one field of the chapter's table says.
func read(t *testing.T, field string) answer {
	t.Helper()
	if field == "-" {
		return answer{e: api.ErrNever}
	}
	words := strings.Fields(field)
	last := len(words) - 1
	next, ok := stateNumbers[words[last]]
	if !ok {
		t.Fatalf("%q: no state", words[last])
	}
	a := answer{next: next}
	for _, w := range words[:last] {
		if actionBits[w] == 0 {
			t.Fatalf("%q: no action", w)
		}
		a.actions |= actionBits[w]
	}
	return a
}

// chapter is the chapter's table: by a state and an event, what it has.
func chapter(t *testing.T) map[[2]uint8]answer {
	t.Helper()
	m := map[[2]uint8]answer{}
	for _, part := range []string{firstPart, secondPart} {
		lines := strings.Split(strings.TrimSpace(part), "\n")
		states := fields(lines[0])[1:]
		for _, line := range lines[2:] {
			row := fields(line)
			event, ok := eventNumbers[row[0]]
			if !ok || len(row) != len(states)+1 {
				t.Fatalf("%q: no line of the table", line)
			}
			for i, name := range states {
				m[[2]uint8{stateNumbers[name], event}] = read(t, row[i+1])
			}
		}
	}
	if len(m) != 160 {
		t.Fatalf("the table has %d cells", len(m))
	}
	return m
}

// wanted is what the contract says of Next at this state and this event.
func wanted(m map[[2]uint8]answer, state, event uint8) answer {
	if state > 9 || event > 15 {
		return answer{e: api.ErrArg}
	}
	return m[[2]uint8{state, event}]
}

// TestP12_1NextExamples: the chapter's examples, and others written out.
func TestP12_1NextExamples(t *testing.T) {
	for _, c := range []struct {
		state, event uint8
		want         answer
	}{
		{api.StInitial, api.EvOpen, answer{api.ActTls, api.StStarting, api.OK}},
		{api.StAckSent, api.EvRca, answer{api.ActTlu | api.ActIrc, api.StOpened, api.OK}},
		{api.StOpened, api.EvToUp, answer{0, 0, api.ErrNever}},
		{api.StInitial, api.EvClose, answer{0, api.StInitial, api.OK}},
		{api.StInitial, api.EvUp, answer{0, api.StClosed, api.OK}},
		{api.StInitial, api.EvDown, answer{0, 0, api.ErrNever}},
		{api.StStopped, api.EvRcrUp, answer{api.ActIrc | api.ActScr | api.ActSca, api.StAckSent, api.OK}},
		{api.StOpened, api.EvRtr, answer{api.ActTld | api.ActZrc | api.ActSta, api.StStopping, api.OK}},
		{api.StOpened, api.EvRxr, answer{api.ActSer, api.StOpened, api.OK}},
		{api.StAckRcvd, api.EvRcrUp, answer{api.ActTlu | api.ActSca, api.StOpened, api.OK}},
		{api.StAckRcvd, api.EvRca, answer{api.ActScr, api.StReqSent, api.OK}},
		{api.StClosing, api.EvToEnd, answer{api.ActTlf, api.StClosed, api.OK}},
		{api.States, api.EvUp, answer{0, 0, api.ErrArg}},
		{api.StInitial, api.FsmEvs, answer{0, 0, api.ErrArg}},
		{api.States, api.FsmEvs, answer{0, 0, api.ErrArg}},
		{255, api.EvOpen, answer{0, 0, api.ErrArg}},
		{api.StOpened, 255, answer{0, 0, api.ErrArg}},
		{255, 255, answer{0, 0, api.ErrArg}},
	} {
		if got := ask(c.state, c.event); got != c.want {
			t.Errorf("Next(%d, %d) = %v, want %v", c.state, c.event, got, c.want)
		}
	}
}

// TestP12_1NextTable: Next is the chapter's table at each state and each event, and ErrArg, with nothing beside it, at all other numbers.
func TestP12_1NextTable(t *testing.T) {
	m := chapter(t)
	for state := range 256 {
		for event := range 256 {
			s, ev := uint8(state), uint8(event)
			if got, want := ask(s, ev), wanted(m, s, ev); got != want {
				t.Errorf("Next(%d, %d) = %v, want %v", s, ev, got, want)
			}
		}
	}
}

// TestP12_1NextCounts: the table has as many a - as the chapter's, and every state and every action but in it.
func TestP12_1NextCounts(t *testing.T) {
	never, states, actions := 0, map[uint8]bool{}, uint16(0)
	for s := range uint8(api.States) {
		for ev := range uint8(api.FsmEvs) {
			a := ask(s, ev)
			if a.e == api.ErrNever {
				never++
				continue
			}
			states[a.next] = true
			actions |= a.actions
		}
	}
	if never != strings.Count(firstPart+secondPart, " - ") || len(states) != 10 || actions != 0x1fff {
		t.Errorf("%d a -, %d states, actions %#x", never, len(states), actions)
	}
}

// TestP12_1Timed: the timer runs in the five states that the chapter names, and in no other number.
func TestP12_1Timed(t *testing.T) {
	runs := []uint8{api.StClosing, api.StStopping, api.StReqSent, api.StAckRcvd, api.StAckSent}
	for state := range 256 {
		s := uint8(state)
		if got, want := Timed(s), slices.Contains(runs, s); got != want {
			t.Errorf("Timed(%d) = %v, want %v", s, got, want)
		}
	}
}

// TestP12_1TimedExpires: the table has an entry for a timer that expires exactly in the states in which it runs.
func TestP12_1TimedExpires(t *testing.T) {
	for s := range uint8(api.States) {
		up, end := ask(s, api.EvToUp).e, ask(s, api.EvToEnd).e
		want := api.Errno(api.ErrNever)
		if Timed(s) {
			want = api.OK
		}
		if up != want || end != want {
			t.Errorf("in %d, Timed is %v, but TO+ is %v and TO- %v", s, Timed(s), up, end)
		}
	}
}

// TestP12_2ActionsExamples: known sets, among them none, each action alone, all, and bits of no action.
func TestP12_2ActionsExamples(t *testing.T) {
	all := []uint16{1, 2, 4, 8, 16, 32, 64, 128, 256, 512, 1024, 2048, 4096}
	for _, c := range []struct {
		set  uint16
		want []uint16
	}{
		{0, nil},
		{api.ActTlu, []uint16{api.ActTlu}},
		{api.ActSer, []uint16{api.ActSer}},
		{api.ActTlu | api.ActIrc, []uint16{api.ActTlu, api.ActIrc}},
		{api.ActSta | api.ActTld | api.ActZrc, []uint16{api.ActTld, api.ActZrc, api.ActSta}},
		{api.ActScr | api.ActIrc | api.ActSca, []uint16{api.ActIrc, api.ActScr, api.ActSca}},
		{0x1fff, all},
		{0xffff, all},
		{0xe000, nil},
		{0x2000, nil},
		{0x4000, nil},
		{0x8000, nil},
		{0xf001, []uint16{api.ActTlu, api.ActSer}},
	} {
		if got := Actions(c.set); !slices.Equal(got, c.want) {
			t.Errorf("Actions(%#x) = %v, want %v", c.set, got, c.want)
		}
	}
	for _, bit := range all {
		if got := Actions(bit); !slices.Equal(got, []uint16{bit}) {
			t.Errorf("Actions(%#x) = %v", bit, got)
		}
	}
}

// TestP12_2ActionsSets: of each number, the actions' bits that are in it, in ascending order.
func TestP12_2ActionsSets(t *testing.T) {
	for n := range 1 << 16 {
		set := uint16(n)
		var want []uint16
		for i := range 13 {
			if n/(1<<i)%2 == 1 {
				want = append(want, uint16(1<<i))
			}
		}
		if got := Actions(set); !slices.Equal(got, want) {
			t.Fatalf("Actions(%#x) = %v, want %v", set, got, want)
		}
	}
}

// TestP12_2ActionsNew: what Actions returns is the caller's alone.
func TestP12_2ActionsNew(t *testing.T) {
	first := Actions(0x1fff)
	clear(first)
	first = append(first[:1], 9, 9, 9)
	second := Actions(0x1fff)
	if len(second) != 13 || second[0] != 1 || second[12] != 4096 {
		t.Errorf("Actions gave %v behind a list that was changed", second)
	}
	if len(first) != 4 || first[0] != 0 {
		t.Errorf("the first list became %v", first)
	}
}

// TestP12_2State: each state has the table's name, and no other number has one.
func TestP12_2State(t *testing.T) {
	names := append(fields(strings.Split(strings.TrimSpace(firstPart), "\n")[0])[1:],
		fields(strings.Split(strings.TrimSpace(secondPart), "\n")[0])[1:]...)
	if len(names) != 10 || names[0] != "Initial" || names[9] != "Opened" {
		t.Fatalf("the table's states are %v", names)
	}
	for state := range 256 {
		got, ok := State(uint8(state))
		want, wantOk := "", state < 10
		if wantOk {
			want = names[state]
		}
		if got != want || ok != wantOk {
			t.Errorf("State(%d) = %q, %v, want %q, %v", state, got, ok, want, wantOk)
		}
	}
}

// TestP12_2Again: asking changes nothing of what is answered next, in whatever order it is asked.
func TestP12_2Again(t *testing.T) {
	m := chapter(t)
	for n := range 3 * 12 * 18 {
		// Steps without a common divisor with the numbers of cells visit each of them, in another order.
		k := n * 5 % (12 * 18)
		s, ev := uint8(k/18), uint8(k%18)
		first := ask(s, ev)
		l := Actions(first.actions)
		name, _ := State(first.next)
		timed := Timed(first.next)
		clear(l)
		if again := ask(s, ev); again != first || again != wanted(m, s, ev) {
			t.Errorf("Next(%d, %d) = %v, and then %v", s, ev, first, again)
		}
		sameName, _ := State(first.next)
		if sameName != name || Timed(first.next) != timed || len(Actions(first.actions)) != len(l) {
			t.Errorf("of %v, State, Timed or Actions changed its answer", first)
		}
	}
}

// TestP12_3UpDown: tlu is performed exactly where Opened is entered from another state, and tld exactly where it is left.
func TestP12_3UpDown(t *testing.T) {
	ups, downs := 0, 0
	for s := range uint8(api.States) {
		for ev := range uint8(api.FsmEvs) {
			a := ask(s, ev)
			if a.e != api.OK {
				continue
			}
			enters := s != api.StOpened && a.next == api.StOpened
			leaves := s == api.StOpened && a.next != api.StOpened
			up, down := a.actions&api.ActTlu != 0, a.actions&api.ActTld != 0
			if up != enters || down != leaves {
				t.Errorf("from %d by %d to %d: tlu %v, tld %v", s, ev, a.next, up, down)
			}
			if up {
				ups++
			}
			if down {
				downs++
			}
		}
	}
	if ups != 2 || downs != 9 {
		t.Errorf("tlu in %d cells, tld in %d", ups, downs)
	}
}

// walk is an automaton that is driven by events, with what happened to it: of
// what the peer answers to own requests, and of what is answered to the peer's
// requests, each a row of signs.
type walk struct {
	state    uint8
	own, his string
}

// received is what the arrival of an event adds to these rows: R is a request,
// A an Ack, N a Nak or Reject, T what has to do with ending.
func (w walk) received(event uint8) walk {
	switch event {
	case api.EvRca:
		// An Ack that comes twice says no more than once.
		w.own = takenBack(w.own) + "A"
	case api.EvRcn:
		w.own += "N"
	case api.EvRcrUp, api.EvRcrNo:
		w.his += "R"
	case api.EvRta:
		w.own = takenBack(w.own)
	case api.EvRtr:
		w.own, w.his = takenBack(w.own), takenBack(w.his)
	case api.EvUp, api.EvDown:
		w.own, w.his = w.own+"T", w.his+"T"
	}
	return w
}

// takenBack is a row in which the last Ack no longer holds, as if it had not
// been; the request waits for another one.
func takenBack(s string) string {
	return strings.TrimSuffix(s, "A")
}

// sent is what the actions of an event add to them.
func (w walk) sent(actions uint16) walk {
	for _, s := range []struct {
		bit      uint16
		own, his string
	}{
		{api.ActScr, "R", ""}, {api.ActSca, "", "A"}, {api.ActScn, "", "N"}, {api.ActStr, "T", "T"},
	} {
		if actions&s.bit != 0 {
			w.own, w.his = w.own+s.own, w.his+s.his
		}
	}
	return w
}

// step is the walk after event, and whether the table has an entry for it.
func (w walk) step(t *testing.T, event uint8) (walk, bool) {
	t.Helper()
	a, next, e := Next(w.state, event)
	if e != api.OK {
		return w, false
	}
	was := w.state
	w = w.received(event).sent(a)
	w.state = next
	if was == api.StOpened || next != api.StOpened {
		return w, true
	}
	// An own request was acknowledged, and a request of the peer by this side, and nothing followed that.
	if !strings.HasSuffix(w.own, "RA") || !strings.HasSuffix(w.his, "RA") {
		t.Fatalf("Opened was entered from %d by %d: own requests %q, the peer's %q", was, event, w.own, w.his)
	}
	return w, true
}

// all goes on by every event, up to so many more, and counts how often Opened was entered.
func (w walk) all(t *testing.T, more int) int {
	t.Helper()
	if more == 0 {
		return 0
	}
	n := 0
	for ev := range uint8(api.FsmEvs) {
		next, ok := w.step(t, ev)
		if !ok {
			continue
		}
		if next.state == api.StOpened && w.state != api.StOpened {
			n++
		}
		n += next.all(t, more-1)
	}
	return n
}

// TestP12_3AcksShort: whatever short row of events occurs, from the beginning or from an automaton that was brought this far, Opened is entered only behind both Acks.
func TestP12_3AcksShort(t *testing.T) {
	for _, begin := range [][]uint8{
		{},
		{api.EvOpen, api.EvUp},
		{api.EvUp, api.EvOpen, api.EvRcrUp},
		{api.EvUp, api.EvOpen, api.EvRca},
		{api.EvUp, api.EvOpen, api.EvRca, api.EvRcrUp},
		{api.EvUp, api.EvOpen, api.EvRca, api.EvRcrUp, api.EvRtr, api.EvToEnd},
	} {
		w := walk{}
		for _, ev := range begin {
			next, ok := w.step(t, ev)
			if !ok {
				t.Fatalf("%d can't occur in %d", ev, w.state)
			}
			w = next
		}
		if w.all(t, 4) == 0 {
			t.Errorf("behind %v, Opened is never entered", begin)
		}
	}
}

// TestP12_3AcksLong: the same in one long row of events, of which each can follow each.
func TestP12_3AcksLong(t *testing.T) {
	w, x, n := walk{}, uint32(1), 0
	for range 200_000 {
		x = x*1664525 + 1013904223
		was := w.state
		w, _ = w.step(t, uint8(x>>28))
		if w.state == api.StOpened && was != api.StOpened {
			n++
		}
		// Only the end of what happened matters.
		w.own, w.his = tail(w.own), tail(w.his)
	}
	if n < 100 {
		t.Errorf("Opened was entered only %d times", n)
	}
}

// tail is the last few signs of a row.
func tail(s string) string {
	return s[max(0, len(s)-4):]
}

// TestP12_3AcksEver: the same in rows of any length: all that can come of any of them is gone through, once for each state and each of what matters of what happened.
func TestP12_3AcksEver(t *testing.T) {
	last := func(s string) string { return s[max(0, len(s)-2):] }
	seen := map[walk]bool{{}: true}
	work := []walk{{}}
	for len(work) > 0 {
		w := work[0]
		work = work[1:]
		for ev := range uint8(api.FsmEvs) {
			next, ok := w.step(t, ev)
			if !ok {
				continue
			}
			next.own, next.his = last(next.own), last(next.his)
			if !seen[next] {
				seen[next] = true
				work = append(work, next)
			}
		}
	}
	states := map[uint8]bool{}
	for w := range seen {
		states[w.state] = true
	}
	if len(states) != api.States {
		t.Errorf("only %d states were reached", len(states))
	}
}
