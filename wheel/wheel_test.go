package wheel

import (
	"fmt"
	"math"
	"math/rand"
	"slices"
	"testing"

	"halyard/api"
)

// last is the greatest time, and most the most ticks of a Set or a Tick.
const (
	last = int64(1) << 60
	most = int64(1) << 24
)

// kind is what a step does.
type kind int

const (
	sets kind = iota
	clears
	ticks
)

// step is a Set, a Clear, or a Tick.
type step struct {
	do  kind
	key uint64
	n   int64
}

// set, clean and tick are steps.
func set(key uint64, after int64) step { return step{sets, key, after} }
func clean(key uint64) step            { return step{clears, key, 0} }
func tick(n int64) step                { return step{ticks, 0, n} }

// String tells a step.
func (s step) String() string {
	return [...]string{
		fmt.Sprintf("Set(%d, %d)", s.key, s.n), fmt.Sprintf("Clear(%d)", s.key), fmt.Sprintf("Tick(%d)", s.n),
	}[s.do]
}

// reply is what comes of a step.
type reply struct {
	keys []uint64
	e    api.Errno
}

// same is whether both are the same.
func (r reply) same(x reply) bool { return r.e == x.e && slices.Equal(r.keys, x.keys) }

// gives and no are replies: these keys; an error.
func gives(keys ...uint64) reply { return reply{keys: keys} }
func no(e api.Errno) reply       { return reply{e: e} }

// does is the step done to a wheel.
func (s step) does(w *Wheel) reply {
	switch s.do {
	case sets:
		return no(w.Set(s.key, s.n))
	case clears:
		return no(w.Clear(s.key))
	}
	l, e := w.Tick(s.n)
	return reply{l, e}
}

// left is a number of ticks, if there is one.
type left struct {
	n  int64
	is bool
}

// view is what a wheel tells of itself: Left of the keys that are asked for.
type view struct {
	now  int64
	next left
	keys []uint64
	left []left
}

// same is whether both are the same.
func (v view) same(x view) bool {
	return v.now == x.now && v.next == x.next && slices.Equal(v.keys, x.keys) && slices.Equal(v.left, x.left)
}

// ask asks a wheel once.
func ask(w *Wheel, asked []uint64) view {
	v := view{now: w.Now(), keys: w.Keys()}
	v.next.n, v.next.is = w.Next()
	for _, k := range asked {
		n, is := w.Left(k)
		v.left = append(v.left, left{n, is})
	}
	return v
}

// look asks a wheel twice, so that asking that changes something is seen.
func look(t *testing.T, w *Wheel, asked ...uint64) view {
	t.Helper()
	first := ask(w, asked)
	if again := ask(w, asked); !again.same(first) {
		t.Fatalf("asked again, %v is %v", first, again)
	}
	return first
}

// from is a wheel without alarms at a time. By ticks it would take 2^36 of them, and more, to get to the greatest one.
func from(now int64) *Wheel {
	w := New()
	w.now = now
	return w
}

// line is a step, and what must come of it.
type line struct {
	s    step
	want reply
}

// follow does a row of steps to a wheel, and holds it against what is written.
func follow(t *testing.T, w *Wheel, row ...line) {
	t.Helper()
	for i, x := range row {
		if got := x.s.does(w); !got.same(x.want) {
			t.Fatalf("%d: of %v comes %v, not %v", i, x.s, got, x.want)
		}
	}
}

// timed is an alarm of the model.
type timed struct {
	key uint64
	due int64
}

// model is a wheel, word by word as the chapter defines it: the alarms stand in the order in which they were set.
type model struct {
	now    int64
	alarms []timed
}

// find is where the key's alarm stands, -1 if it has none.
func (m *model) find(key uint64) int {
	return slices.IndexFunc(m.alarms, func(a timed) bool { return a.key == key })
}

// remove takes the key's alarm out, if it has one.
func (m *model) remove(key uint64) {
	m.alarms = slices.DeleteFunc(m.alarms, func(a timed) bool { return a.key == key })
}

// ordered is the alarms in their order.
func (m *model) ordered() []timed {
	l := slices.Clone(m.alarms)
	for i := range l {
		for j := i; j > 0 && l[j].due < l[j-1].due; j-- {
			l[j], l[j-1] = l[j-1], l[j]
		}
	}
	return l
}

// do is what a wheel answers to a step.
func (m *model) do(s step) reply {
	switch s.do {
	case sets:
		return no(m.set(s.key, s.n))
	case clears:
		if m.find(s.key) < 0 {
			return no(api.ErrNone)
		}
		m.remove(s.key)
		return reply{}
	}
	if s.n < 0 || s.n > most || last-m.now < s.n {
		return no(api.ErrArg)
	}
	m.now += s.n
	var r reply
	for _, a := range m.ordered() {
		if a.due <= m.now {
			r.keys = append(r.keys, a.key)
			m.remove(a.key)
		}
	}
	return r
}

// set is what a wheel answers to Set.
func (m *model) set(key uint64, after int64) api.Errno {
	if after < 1 || after > most {
		return api.ErrArg
	}
	if m.find(key) < 0 && len(m.alarms) == 4096 {
		return api.ErrFull
	}
	m.remove(key)
	m.alarms = append(m.alarms, timed{key, m.now + after})
	return api.OK
}

// view is what the model tells of itself.
func (m *model) view(asked ...uint64) view {
	v := view{now: m.now}
	for i, a := range m.ordered() {
		if i == 0 {
			v.next = left{a.due - m.now, true}
		}
		v.keys = append(v.keys, a.key)
	}
	for _, k := range asked {
		x := left{}
		if i := m.find(k); i >= 0 {
			x = left{m.alarms[i].due - m.now, true}
		}
		v.left = append(v.left, x)
	}
	return v
}

// copy is another one of the same.
func (m *model) copy() *model { return &model{m.now, slices.Clone(m.alarms)} }

// both does a step to a wheel and to the model, and tells how they differ.
func both(t *testing.T, w *Wheel, m *model, s step, asked ...uint64) string {
	t.Helper()
	if got, want := s.does(w), m.do(s); !got.same(want) {
		return fmt.Sprintf("of %v comes %v, not %v", s, got, want)
	}
	if got, want := look(t, w, asked...), m.view(asked...); !got.same(want) {
		return fmt.Sprintf("behind %v it is %v, not %v", s, got, want)
	}
	return ""
}

// times are those at which something may go over: about powers of two, about sums of these, and the greatest ones.
func times() []int64 {
	l := []int64{0, 1<<24 + 1<<12 - 1, 1<<40 - 1<<24, 1<<59 + 1<<30 + 5, last - 1<<24, last - 1<<24 - 1}
	for bit := 1; bit <= 60; bit++ {
		l = append(l, 1<<bit-1, 1<<bit)
	}
	return l
}

// spans are numbers of ticks about powers of two, from 1 to 2^24.
func spans() []int64 {
	var l []int64
	for bit := range 25 {
		for _, n := range []int64{1<<bit - 1, 1 << bit, 1<<bit + 1} {
			if n >= 1 && n <= most && !slices.Contains(l, n) {
				l = append(l, n)
			}
		}
	}
	return l
}

// TestP21_1New: a new wheel has no alarms, and shares nothing with another one.
func TestP21_1New(t *testing.T) {
	w, other := New(), New()
	if w == nil || other == nil {
		t.Fatal("there is none")
	}
	if got := look(t, w, 0, 1, math.MaxUint64); !got.same(view{left: make([]left, 3)}) {
		t.Errorf("it is %v", got)
	}
	follow(t, w, line{set(1, 1), reply{}}, line{tick(0), reply{}})
	if got := look(t, other, 1); !got.same(view{left: make([]left, 1)}) {
		t.Errorf("the other one is %v", got)
	}
	follow(t, New(), line{clean(0), no(api.ErrNone)}, line{tick(most), reply{}})
}

// TestP21_1Example: the rows of the chapter's examples.
func TestP21_1Example(t *testing.T) {
	w := New()
	follow(t, w, line{set(7, 5), reply{}}, line{set(8, 3), reply{}}, line{set(7, 3), reply{}})
	if n, is := w.Next(); n != 3 || !is {
		t.Errorf("Next() = %d, %v", n, is)
	}
	follow(t, w, line{tick(2), reply{}}, line{tick(1), gives(8, 7)}, line{set(9, 0), no(api.ErrArg)})
}

// TestP21_1SetArgs: numbers of ticks that can't be have no effect, whether the key has an alarm or not.
func TestP21_1SetArgs(t *testing.T) {
	for _, now := range times() {
		w := from(now)
		follow(t, w, line{set(1, 20), reply{}}, line{set(2, 20), reply{}}, line{set(3, most), reply{}})
		was := look(t, w, 1, 2, 3, 4)
		for _, n := range []int64{0, -1, -2, -20, -most, most + 1, most + 2, 2 * most, 1<<32 + 1, last, 1<<62 + 1, math.MaxInt64, math.MinInt64, math.MinInt64 + 1} {
			for _, key := range []uint64{1, 2, 4} {
				if got := set(key, n).does(w); !got.same(no(api.ErrArg)) {
					t.Errorf("at %d, of Set(%d, %d) comes %v", now, key, n, got)
				}
			}
		}
		if got := look(t, w, 1, 2, 3, 4); !got.same(was) {
			t.Errorf("at %d, %v became %v", now, was, got)
		}
	}
}

// TestP21_1SetSpans: an alarm is due exactly that many ticks after the time when it is set, wherever both are (P21.2, P21.3).
func TestP21_1SetSpans(t *testing.T) {
	for _, now := range times() {
		for _, n := range spans() {
			w := from(now)
			follow(t, w, line{set(5, n), reply{}})
			want := view{now, left{n, true}, []uint64{5}, []left{{n, true}, {}}}
			if got := look(t, w, 5, 6); !got.same(want) {
				t.Fatalf("at %d, behind Set(5, %d) it is %v", now, n, got)
			}
			if now+n > last {
				follow(t, w, line{tick(n), no(api.ErrArg)}, line{tick(last - now), reply{}})
				if got, want := look(t, w, 5), (view{last, left{now + n - last, true}, []uint64{5}, []left{{now + n - last, true}}}); !got.same(want) {
					t.Fatalf("at %d, an alarm of %d becomes %v", now, n, got)
				}
				continue
			}
			follow(t, w, line{tick(n - 1), reply{}})
			if got := look(t, w, 5); !got.same(view{now + n - 1, left{1, true}, []uint64{5}, []left{{1, true}}}) {
				t.Fatalf("from %d, a tick ahead of %d, it is %v", now, n, got)
			}
			follow(t, w, line{tick(1), gives(5)})
			if got := look(t, w, 5); !got.same(view{now + n, left{}, nil, []left{{}}}) {
				t.Fatalf("from %d, behind %d, it is %v", now, n, got)
			}
			follow(t, w, line{clean(5), no(api.ErrNone)}, line{tick(0), reply{}})
		}
	}
}

// TestP21_1Replace: a key's new alarm takes the place of the old one, sooner or later, and comes behind those of its time that were there.
func TestP21_1Replace(t *testing.T) {
	for _, now := range []int64{0, 13, 250, 4090, 1<<24 - 3, 1<<59 - 1} {
		for _, old := range spans() {
			for _, n := range spans() {
				w := from(now)
				follow(t, w, line{set(1, old), reply{}}, line{set(2, n), reply{}}, line{set(1, n), reply{}})
				want := view{now, left{n, true}, []uint64{2, 1}, []left{{n, true}, {n, true}}}
				if got := look(t, w, 1, 2); !got.same(want) {
					t.Fatalf("at %d, %d instead of %d: it is %v", now, n, old, got)
				}
				follow(t, w, line{tick(n - 1), reply{}}, line{tick(1), gives(2, 1)}, line{tick(most), reply{}})
			}
		}
	}
}

// TestP21_1Full: there are at most 4,096 alarms; a key that has one can still be set, and what can't be is told first.
func TestP21_1Full(t *testing.T) {
	if api.MaxAlarms != 4096 || api.MaxAfter != most {
		t.Fatal("the limits are other ones")
	}
	w, m := New(), &model{}
	check := func(s step, want api.Errno) {
		t.Helper()
		if got := s.does(w.Copy()); got.e != want {
			t.Fatalf("of %v comes %v", s, got)
		}
		if wrong := both(t, w, m, s, 0, 7, 4095, 9000); wrong != "" {
			t.Fatal(wrong)
		}
	}
	for k := range uint64(4096) {
		if e := w.Set(k, int64(1+k*7%100)); e != api.OK {
			t.Fatalf("%d: %v", k, e)
		}
		m.do(set(k, int64(1+k*7%100)))
	}
	check(set(9000, 1), api.ErrFull)
	check(set(9000, most), api.ErrFull)
	check(set(9000, 0), api.ErrArg)
	check(set(9000, most+1), api.ErrArg)
	check(set(7, 30), api.OK)
	check(set(9000, 1), api.ErrFull)
	check(clean(9000), api.ErrNone)
	check(clean(7), api.OK)
	check(set(9000, 30), api.OK)
	check(set(7, 30), api.ErrFull)
	check(set(4095, 99), api.OK)
	check(tick(1), api.OK)
	for k := range uint64(41) { // as many were due
		check(set(9001+k, 2+int64(k)), api.OK)
	}
	check(set(9100, 2), api.ErrFull)
	check(tick(most), api.OK)
	if len(w.Keys()) != 0 {
		t.Errorf("left are %v", w.Keys())
	}
	for k := range uint64(4096) {
		if e := w.Set(10000+k, most); e != api.OK {
			t.Fatalf("again, %d: %v", k, e)
		}
	}
	if e := w.Set(9, most); e != api.ErrFull {
		t.Errorf("again: %v", e)
	}
}

// TestP21_1Clear: only a key that has an alarm can be cleared, and loses that one alone.
func TestP21_1Clear(t *testing.T) {
	keys := []uint64{0, 1, 2, 1 << 32, 1<<32 + 1, 1 << 63, math.MaxUint64}
	for _, gone := range keys {
		w := New()
		var others []uint64
		for i, k := range keys {
			follow(t, w, line{clean(k), no(api.ErrNone)}, line{set(k, int64(20+i%2)), reply{}})
		}
		for i := range 2 {
			for j, k := range keys {
				if j%2 == i && k != gone {
					others = append(others, k)
				}
			}
		}
		follow(t, w, line{clean(gone), reply{}}, line{clean(gone), no(api.ErrNone)})
		if got := look(t, w, gone); !slices.Equal(got.keys, others) || got.left[0].is {
			t.Errorf("without %d it is %v", gone, got)
		}
		follow(t, w, line{tick(30), gives(others...)})
		for _, k := range keys {
			follow(t, w, line{clean(k), no(api.ErrNone)})
		}
		follow(t, w, line{set(gone, 4), reply{}}, line{tick(4), gives(gone)})
	}
}

// TestP21_2Args: numbers of ticks that can't be have no effect.
func TestP21_2Args(t *testing.T) {
	for _, now := range times() {
		w := from(now)
		follow(t, w, line{set(1, 1), reply{}}, line{set(2, most), reply{}})
		was := look(t, w, 1, 2)
		wrong := []int64{-1, -2, -most, most + 1, 2 * most, 1<<32 + 1, last, last + 1, last - now + 1, math.MaxInt64, math.MaxInt64 - now, math.MinInt64, math.MinInt64 + 1, -now - 1}
		for _, n := range wrong {
			if got := tick(n).does(w); !got.same(no(api.ErrArg)) {
				t.Errorf("at %d, of Tick(%d) comes %v", now, n, got)
			}
			if got := look(t, w, 1, 2); !got.same(was) {
				t.Fatalf("at %d, Tick(%d) made %v of %v", now, n, got, was)
			}
		}
		follow(t, w, line{tick(0), reply{}})
		if got := look(t, w, 1, 2); !got.same(was) {
			t.Fatalf("at %d, Tick(0) made %v of %v", now, got, was)
		}
	}
}

// TestP21_2Last: the time comes to 2^60 exactly, and what is due beyond it stays.
func TestP21_2Last(t *testing.T) {
	for _, ahead := range []int64{0, 1, 2, 15, 16, 17, 255, 257, most - 1, most} {
		w := from(last - ahead)
		if ahead > 0 {
			follow(t, w, line{set(1, ahead), reply{}})
		}
		if ahead < most {
			follow(t, w, line{set(2, ahead+1), reply{}}, line{tick(ahead + 1), no(api.ErrArg)})
		}
		got := tick(ahead).does(w)
		if want := []uint64{1}[:min(ahead, 1)]; !got.same(gives(want...)) || w.Now() != last {
			t.Errorf("from %d before: %v, %d", ahead, got, w.Now())
		}
		follow(t, w, line{tick(1), no(api.ErrArg)}, line{tick(0), reply{}}, line{set(3, 1), reply{}}, line{set(4, most), reply{}}, line{tick(0), reply{}})
		want := []uint64{2, 3, 4}
		if ahead == most {
			want = want[1:]
		}
		if got := look(t, w, 4); got.next != (left{1, true}) || got.left[0] != (left{most, true}) || !slices.Equal(got.keys, want) {
			t.Errorf("from %d before, it is %v", ahead, got)
		}
		if ahead < most {
			follow(t, w, line{clean(2), reply{}})
		}
		follow(t, w, line{clean(4), reply{}}, line{clean(3), reply{}}, line{clean(3), no(api.ErrNone)})
	}
}

// TestP21_2Order: alarms of one time that are set on the way there come in the order in which they were set, from however far; what is due a tick before or behind does not mix with them.
func TestP21_2Order(t *testing.T) {
	for _, now := range times() {
		for _, way := range []int64{40, 300, 5000, 70000, 1 << 21, most} {
			if now+way > last {
				continue
			}
			w, m := from(now), &model{now: now}
			key := uint64(1000)
			for rest := way; rest > 0; rest -= max(1, rest/3) {
				for d := int64(-1); d <= 1; d++ {
					if n := rest + d; n >= 1 && n <= most {
						key--
						if wrong := both(t, w, m, set(key, n), key); wrong != "" {
							t.Fatalf("from %d: %s", now, wrong)
						}
					}
				}
				if wrong := both(t, w, m, tick(max(1, rest/3)), key); wrong != "" {
					t.Fatalf("from %d: %s", now, wrong)
				}
			}
			if wrong := both(t, w, m, tick(min(1, last-w.Now())), key); wrong != "" {
				t.Fatalf("from %d: %s", now, wrong)
			}
		}
	}
}

// TestP21_2Both: what is due before comes ahead of what is due later, also if it was set later; one that was replaced is the last of its time.
func TestP21_2Both(t *testing.T) {
	follow(t, New(),
		line{set(1, 100), reply{}},
		line{set(2, 90), reply{}},
		line{set(3, 100), reply{}},
		line{tick(50), reply{}},
		line{set(4, 50), reply{}},
		line{set(5, 40), reply{}},
		line{set(1, 50), reply{}},
		line{set(6, 51), reply{}},
		line{tick(50), gives(2, 5, 3, 4, 1)},
		line{tick(0), reply{}},
		line{set(2, 1), reply{}},
		line{tick(1), gives(6, 2)},
		line{tick(most), reply{}},
	)
}

// TestP21_3Order: Keys has the order of Tick, and removes nothing; Next is of the first one.
func TestP21_3Order(t *testing.T) {
	w := New()
	for _, s := range []step{set(1, most), set(2, 17), set(3, 16), set(4, 17), set(5, 1), set(6, 4096), set(2, 4096), set(7, 15)} {
		follow(t, w, line{s, reply{}})
	}
	want := view{0, left{1, true}, []uint64{5, 7, 3, 4, 6, 2, 1}, []left{{most, true}, {4096, true}, {}}}
	if got := look(t, w, 1, 2, 8); !got.same(want) {
		t.Errorf("it is %v", got)
	}
	follow(t, w, line{tick(16), gives(5, 7, 3)})
	want = view{16, left{1, true}, []uint64{4, 6, 2, 1}, []left{{most - 16, true}, {4080, true}, {}}}
	if got := look(t, w, 1, 2, 3); !got.same(want) {
		t.Errorf("it is %v", got)
	}
	follow(t, w, line{clean(4), reply{}})
	if got := look(t, w); got.next != (left{4080, true}) {
		t.Errorf("it is %v", got)
	}
	follow(t, w, line{tick(4080), gives(6, 2)}, line{clean(1), reply{}})
	if got := look(t, w, 1); !got.same(view{4096, left{}, nil, []left{{}}}) {
		t.Errorf("it is %v", got)
	}
}

// TestP21_3Copy: a copy is equal, and what is done to one of the two is not done to the other.
func TestP21_3Copy(t *testing.T) {
	made := func() (*Wheel, *model) {
		w, m := from(1<<24-20), &model{now: 1<<24 - 20}
		for k := range uint64(40) {
			s := set(k, 1+int64(k*k*k%100))
			s.does(w)
			m.do(s)
		}
		return w, m
	}
	rows := [][]step{
		{tick(0)}, {tick(1)}, {tick(7), set(3, 4)}, {tick(50)}, {tick(most)}, {set(41, 5)}, {set(5, 5)}, {set(5, 77), set(6, 77)},
		{clean(4)}, {clean(7), clean(8), clean(9)}, {clean(7), set(50, 43)}, {tick(33), clean(0), set(0, 1), tick(1)},
	}
	asked := []uint64{0, 3, 5, 7, 8, 41, 50}
	for _, first := range rows {
		for _, second := range rows {
			w, m := made()
			c := w.Copy()
			n := m.copy()
			if c == w || !look(t, c, asked...).same(m.view(asked...)) {
				t.Fatalf("the copy is %v", look(t, c, asked...))
			}
			for i := range max(len(first), len(second)) {
				for _, x := range []struct {
					w   *Wheel
					m   *model
					row []step
				}{{w, m, first}, {c, n, second}} {
					if i >= len(x.row) {
						continue
					}
					if wrong := both(t, x.w, x.m, x.row[i], asked...); wrong != "" {
						t.Fatalf("%v and %v: %s", first, second, wrong)
					}
				}
			}
			for range 130 {
				if wrong := both(t, w, m, tick(1), asked...) + both(t, c, n, tick(1), asked...); wrong != "" {
					t.Fatalf("%v and %v: %s", first, second, wrong)
				}
			}
		}
	}
	c := New().Copy()
	follow(t, c, line{clean(1), no(api.ErrNone)}, line{set(1, 1), reply{}}, line{tick(1), gives(1)})
}

// TestP21_3Nil: what nil answers (also P21.1, P21.2).
func TestP21_3Nil(t *testing.T) {
	var w *Wheel
	for _, s := range []step{set(1, 1), set(1, 0), clean(1), tick(1), tick(-1)} {
		if got := s.does(w); !got.same(no(api.ErrNil)) {
			t.Errorf("of %v comes %v", s, got)
		}
	}
	if got := look(t, w, 0, 1); !got.same(view{left: make([]left, 2)}) {
		t.Errorf("it is %v", got)
	}
	if w.Copy() != nil {
		t.Error("there is a copy")
	}
}

// TestP21_3OwnMemory: what is returned (also P21.2) may be changed without effect.
func TestP21_3OwnMemory(t *testing.T) {
	w := New()
	follow(t, w, line{set(1, 5), reply{}}, line{set(2, 5), reply{}}, line{set(3, 6), reply{}}, line{set(4, 300), reply{}})
	c := w.Copy()
	for _, x := range []*Wheel{w, c} {
		l := x.Keys()
		for i := range l {
			l[i] = 99
		}
		_ = append(l[:1], 98)
	}
	l, _ := w.Tick(5)
	if !slices.Equal(l, []uint64{1, 2}) {
		t.Fatalf("of Tick(5) comes %v", l)
	}
	l[0], l[1] = 3, 4
	_ = append(l, 98)
	if got := look(t, w, 1, 3); !got.same(view{5, left{1, true}, []uint64{3, 4}, []left{{}, {1, true}}}) {
		t.Errorf("it is %v", got)
	}
	kept, _ := w.Tick(1)
	follow(t, w, line{set(5, 1), reply{}}, line{tick(1), gives(5)}, line{tick(400), gives(4)})
	if !slices.Equal(kept, []uint64{3}) {
		t.Errorf("it became %v", kept)
	}
	follow(t, c, line{tick(300), gives(1, 2, 3, 4)})
}

// TestP21_2Rows: all rows of four steps of every kind, from four times, as the chapter's words have it (P21.1 to P21.3).
func TestP21_2Rows(t *testing.T) {
	steps := []step{
		set(1, 1), set(1, 2), set(1, 17), set(2, 1), set(2, 16), set(2, 257), set(3, 2), set(3, 16), set(3, most), set(1, 0),
		clean(1), clean(2), tick(0), tick(1), tick(2), tick(15), tick(16), tick(256), tick(most), tick(-1),
	}
	for _, now := range []int64{13, 255, 1<<24 - 17, last - 17} {
		var on func(w *Wheel, m *model, row []step)
		on = func(w *Wheel, m *model, row []step) {
			if len(row) == 4 {
				return
			}
			for _, s := range steps {
				c, n, way := w.Copy(), m.copy(), append(slices.Clone(row), s)
				if wrong := both(t, c, n, s, 1, 2, 3); wrong != "" {
					t.Fatalf("from %d: %v: %s", now, way, wrong)
				}
				on(c, n, way)
			}
		}
		on(from(now), &model{now: now}, nil)
	}
}

// span is a random number of ticks, of a random length in bits, often at a border.
func span(r *rand.Rand) int64 {
	bit := r.Intn(25)
	n := r.Int63n(1<<bit) + 1
	if r.Intn(3) == 0 {
		n = int64(1)<<bit + r.Int63n(3) - 1
	}
	return min(most, n)
}

// anyStep is a random one, of few keys.
func anyStep(r *rand.Rand, keys int, same []int64) step {
	key := uint64(r.Intn(keys))
	switch r.Intn(8) {
	case 0, 1:
		return set(key, max(1, span(r)))
	case 2, 3:
		return set(key, same[r.Intn(len(same))])
	case 4:
		return clean(key)
	case 5:
		return tick(same[r.Intn(len(same))])
	case 6:
		return tick(span(r) >> r.Intn(25))
	}
	return tick(r.Int63n(4))
}

// TestP21_2Walks: long random rows, from times of all kinds, as the chapter's words have it (P21.1 to P21.3).
func TestP21_2Walks(t *testing.T) {
	starts, told := times(), 0
	for i := range 600 {
		r := rand.New(rand.NewSource(int64(i)))
		now := starts[i%len(starts)]
		keys := 1 + r.Intn(60)
		same := []int64{1 + r.Int63n(20), 1 + r.Int63n(300), 1 + r.Int63n(5000)}
		w, m := from(now), &model{now: now}
		for range 400 {
			s := anyStep(r, keys, same)
			if wrong := both(t, w, m, s, uint64(r.Intn(keys)), 0, 99); wrong != "" {
				t.Fatalf("row %d, from %d: %s", i, now, wrong)
			}
			if s.do == ticks {
				told++
			}
		}
	}
	if told < 50000 {
		t.Errorf("only %d ticks", told)
	}
}

// came is a key that a Tick returned, and between which times that went.
type came struct {
	key      uint64
	from, to int64
}

// run lets a wheel come to a time by steps of random lengths, and tells what came, in order.
func run(t *testing.T, w *Wheel, to int64, r *rand.Rand, longest int64) []came {
	t.Helper()
	var l []came
	for w.Now() < to {
		from := w.Now()
		keys, e := w.Tick(min(to-from, r.Int63n(longest+1)))
		if e != api.OK {
			t.Fatalf("of a tick at %d comes %v", from, e)
		}
		for _, k := range keys {
			l = append(l, came{k, from, w.Now()})
		}
	}
	return l
}

// busy is a wheel with alarms at random times up to behind a time, and when each is due; some were replaced, or cleared.
func busy(t *testing.T, r *rand.Rand, now, way int64) (*Wheel, map[uint64]int64) {
	t.Helper()
	w, due := from(now), map[uint64]int64{}
	for range 1 + r.Intn(200) {
		k, n := uint64(r.Intn(150)), 1+r.Int63n(way+1)
		follow(t, w, line{set(k, n), reply{}})
		due[k] = now + n
		if r.Intn(5) == 0 {
			k = uint64(r.Intn(150))
			w.Clear(k)
			delete(due, k)
		}
	}
	return w, due
}

// TestP21_4Steps: each alarm comes once, by the first Tick by which its time has come, and in an order that does not depend on the steps.
func TestP21_4Steps(t *testing.T) {
	starts := times()
	for i := range 300 {
		r := rand.New(rand.NewSource(int64(i)))
		now := starts[r.Intn(len(starts))]
		way := min(1+r.Int63n(1<<(4+r.Intn(14))), last-now)
		w, due := busy(t, r, now, way)
		order := w.Keys()
		for _, longest := range []int64{way/1000 + 1, way/50 + 1, way/3 + 1, way} {
			c := w.Copy()
			got := run(t, c, now+way, r, max(1, longest))
			for j, x := range got {
				if j >= len(order) || x.key != order[j] {
					t.Fatalf("row %d, steps of %d: the %d-th is %d of %v", i, longest, j, x.key, order)
				}
				if d, is := due[x.key]; !is || d <= x.from || d > x.to {
					t.Fatalf("row %d: what is due at %d comes from %d to %d", i, d, x.from, x.to)
				}
			}
			if len(order) != len(due) || !slices.Equal(c.Keys(), order[len(got):]) {
				t.Fatalf("row %d: of %v come %d, left are %v", i, order, len(got), c.Keys())
			}
			for _, k := range c.Keys() {
				if due[k] <= c.Now() {
					t.Fatalf("row %d: what is due at %d is left at %d", i, due[k], c.Now())
				}
			}
		}
	}
}

// TestP21_4One: by steps of one tick, each alarm comes at its very time.
func TestP21_4One(t *testing.T) {
	for _, now := range []int64{0, 4000, 1<<24 - 3000, 1<<32 - 300, 1<<60 - 6000} {
		w := from(now)
		for k := range uint64(4096) {
			follow(t, w, line{set(k, 1+int64(k*2741%4999)), reply{}})
		}
		for range 5000 {
			l, e := w.Tick(1)
			if e != api.OK {
				t.Fatal(e)
			}
			for _, k := range l {
				if due := now + 1 + int64(k*2741%4999); due != w.Now() {
					t.Fatalf("what is due at %d comes at %d", due, w.Now())
				}
			}
		}
		if len(w.Keys()) != 0 {
			t.Errorf("left are %v", w.Keys())
		}
	}
}
