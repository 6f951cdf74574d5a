package hdlc

import (
	"math"
	"slices"
	"strings"
	"testing"

	"halyard/api"
)

const (
	allMapped  = 0xffffffff
	flowMapped = 0x000a0000 // 11 and 13
)

// sealed is layer 2's definition, bit by bit.
func sealed(info string) string {
	c := uint16(0xffff)
	for _, b := range []byte(info) {
		for bit := range 8 {
			xor := c&1 ^ uint16(b>>bit)&1
			c >>= 1
			if xor == 1 {
				c ^= 0x8408
			}
		}
	}
	c = ^c
	return info + string([]byte{byte(c), byte(c >> 8)})
}

// isMapped is layer 3's definition.
func isMapped(accm uint32, b byte) bool {
	return b < 32 && accm&(uint32(1)<<b) != 0
}

// escaped is layer 3's definition.
func escaped(s string, accm uint32) string {
	var out []byte
	for _, b := range []byte(s) {
		if b == 0x7d || b == 0x7e || isMapped(accm, b) {
			out = append(out, 0x7d, b^0x20)
		} else {
			out = append(out, b)
		}
	}
	return string(out)
}

// unescaped is layer 3's definition, for a string without flags whose last byte is no mark.
func unescaped(s string) string {
	var out []byte
	for i := 0; i < len(s); i++ {
		b := s[i]
		if b == 0x7d {
			i++
			b = s[i] ^ 0x20
		}
		out = append(out, b)
	}
	return string(out)
}

// framed is the chapter's definition of a frame.
func framed(info string, accm uint32) string {
	return "\x7e" + escaped(sealed(info), accm) + "\x7e"
}

// model is the chapter's definition of a receiver: it keeps the whole of a piece.
type model struct {
	most  int
	accm  uint32
	begun bool
	piece []byte
	heard api.Heard
}

func (m *model) push(s string) []string {
	var got []string
	for _, b := range []byte(s) {
		switch {
		case b == 0x7e:
			if info, good := m.evaluate(); good {
				got = append(got, info)
			}
			m.begun, m.piece = true, nil
		case m.begun && !isMapped(m.accm, b):
			m.piece = append(m.piece, b)
		}
	}
	return got
}

func (m *model) evaluate() (info string, good bool) {
	if len(m.piece) == 0 {
		return "", false
	}
	if m.piece[len(m.piece)-1] == 0x7d {
		m.heard.Aborts++
		return "", false
	}
	plain := unescaped(string(m.piece))
	if len(plain) > m.most+2 {
		m.heard.Longs++
		return "", false
	}
	if len(plain) < 4 {
		m.heard.Shorts++
		return "", false
	}
	info = plain[:len(plain)-2]
	if sealed(info) != plain {
		m.heard.Sums++
		return "", false
	}
	m.heard.Good++
	return info, true
}

func (m *model) inside() bool { return len(m.piece) > 0 }

// receiver returns a new one, or ends the test.
func receiver(t *testing.T, most int, accm uint32) *Receiver {
	t.Helper()
	r, e := New(most, accm)
	if e != api.OK || r == nil {
		t.Fatalf("New(%d, %08x) = %v, %v", most, accm, r, e)
	}
	return r
}

// expect pushes s, and tells what is otherwise than wanted.
func expect(t *testing.T, r *Receiver, s string, want []string, heard api.Heard, inside bool) {
	t.Helper()
	if got := r.Push(s); !slices.Equal(got, want) {
		t.Errorf("Push(%.60q) = %.60q, want %.60q", s, got, want)
	}
	if got := r.Heard(); got != heard {
		t.Errorf("after %.60q: Heard() = %+v, want %+v", s, got, heard)
	}
	if got := r.Inside(); got != inside {
		t.Errorf("after %.60q: Inside() = %v", s, got)
	}
}

// everyByte has each byte once, in order.
func everyByte() string {
	var b [256]byte
	for i := range b {
		b[i] = byte(i)
	}
	return string(b[:])
}

// samples are information fields of at least two bytes.
func samples() []string {
	return []string{
		"ab", "\x00\x00", "\xff\x03\xc0\x21", "123456789",
		"\x7e\x7e", "\x7d\x7d", "\x7d\x5e", "\x7e\x7d\x7e", "ab\x7d", "\x7dab", // flags and marks at each place
		"\x00\x11\x13\x1f\x20", "\xc3\xa9\xe2\x82\xac", everyByte(),
		strings.Repeat("\x7e", 1508), strings.Repeat("\x00", 1507), strings.Repeat("plain\x7d", 250),
	}
}

// maps are those with no bit, with all, with one, and some between.
func maps() []uint32 {
	return []uint32{0, allMapped, flowMapped, 0x400, 1, 1 << 31, 0x55555555}
}

// withSum returns an information of two bytes whose checksum has the byte b.
func withSum(t *testing.T, b byte) string {
	t.Helper()
	for i := range 1 << 16 {
		info := string([]byte{byte(i >> 8), byte(i & 0xff)})
		if strings.IndexByte(sealed(info)[2:], b) >= 0 && !strings.ContainsAny(info, "\x7d\x7e") {
			return info
		}
	}
	t.Fatalf("no checksum has %02x", b)
	return ""
}

// TestP4_1FrameKnown: frames whose bytes are written out.
func TestP4_1FrameKnown(t *testing.T) {
	for _, c := range []struct {
		info string
		accm uint32
		want string
	}{
		{"", 0, "\x7e\x00\x00\x7e"}, // the sum of nothing is 0
		{"", 1, "\x7e\x7d\x20\x7d\x20\x7e"},
		{"", 2, "\x7e\x00\x00\x7e"},
		{"123456789", 0, "\x7e123456789\x6e\x90\x7e"}, // 906E, the lower byte first
		{"123456789", allMapped, "\x7e123456789\x6e\x90\x7e"},
		{"\xff\x03\xc0\x21\x01\x01\x00\x04", allMapped, "\x7e\xff\x7d\x23\xc0\x21\x7d\x21\x7d\x21\x7d\x20\x7d\x24\xd1\xb5\x7e"},
		{"\xff\x03\xc0\x21\x01\x01\x00\x04", 0, "\x7e\xff\x03\xc0\x21\x01\x01\x00\x04\xd1\xb5\x7e"},
	} {
		if got := Frame(c.info, c.accm); got != c.want {
			t.Errorf("Frame(%q, %08x) = %q, want %q", c.info, c.accm, got, c.want)
		}
	}
}

// TestP4_1Frame: any information with any map, also one that no receiver takes; checksums that are escaped.
func TestP4_1Frame(t *testing.T) {
	infos := append(samples(), "", "a", "\x7e", "\x7d", "\x00", strings.Repeat("x", 1509), strings.Repeat("\x7d\x00", 5000))
	infos = append(infos, withSum(t, 0x7e), withSum(t, 0x7d), withSum(t, 0x11))
	for range 2 { // the same when asked again (R6)
		for _, accm := range maps() {
			for _, info := range infos {
				if got, want := Frame(info, accm), framed(info, accm); got != want {
					t.Fatalf("Frame(%.20q, %08x) = %.40q, want %.40q", info, accm, got, want)
				}
			}
		}
	}
	for b, want := range map[byte]string{0x7e: "\x7d\x5e", 0x7d: "\x7d\x5d"} {
		info := withSum(t, b)
		got := Frame(info, 0)
		if !strings.HasPrefix(got, "\x7e"+info) || !strings.Contains(got[3:], want) || strings.Count(got, "\x7e") != 2 {
			t.Errorf("Frame(%q, 0) = %q", info, got)
		}
	}
}

// mosts are maximums on both sides of the limits, and whether they can be.
func mosts() map[int]bool {
	return map[int]bool{
		math.MinInt: false, -1508: false, -1: false, 0: false, 1: false,
		2: true, 3: true, 1500: true, 1507: true, 1508: true,
		1509: false, 1510: false, 65538: false, math.MaxInt: false,
	}
}

// TestP4_1New: which maximums there are, nothing beside an error (R2), and that nothing has arrived.
func TestP4_1New(t *testing.T) {
	for most, can := range mosts() {
		for _, accm := range maps() {
			r, e := New(most, accm)
			if !can {
				if r != nil || e != api.ErrArg {
					t.Errorf("New(%d, %08x) = %v, %v", most, accm, r, e)
				}
				continue
			}
			if r == nil || e != api.OK {
				t.Fatalf("New(%d, %08x) = %v, %v", most, accm, r, e)
			}
			expect(t, r, "", nil, api.Heard{}, false)
			expect(t, r, "abcdef\x7d", nil, api.Heard{}, false) // no flag has arrived
			expect(t, r, "\x7e", nil, api.Heard{}, false)
		}
	}
}

// TestP4_1NewMost: each maximum that can be is kept, whole.
func TestP4_1NewMost(t *testing.T) {
	for most := 2; most <= 1508; most++ {
		r := receiver(t, most, 0)
		info := strings.Repeat("i", most)
		expect(t, r, framed(info, 0), []string{info}, api.Heard{Good: 1}, false)
		expect(t, r, framed(info+"i", 0), nil, api.Heard{Good: 1, Longs: 1}, false)
	}
}

// TestP4_1Set: which maximums can be set; a Set that is refused changes nothing.
func TestP4_1Set(t *testing.T) {
	for most, can := range mosts() {
		r := receiver(t, 5, flowMapped)
		want := api.ErrArg
		if can {
			want = api.OK
		}
		if e := r.Set(most, 0x400); e != want {
			t.Errorf("Set(%d) = %v", most, e)
		}
		if can {
			info := strings.Repeat("i", most)
			expect(t, r, framed(info, 0), []string{info}, api.Heard{Good: 1}, false)
			expect(t, r, framed(info+"i", 0), nil, api.Heard{Good: 1, Longs: 1}, false)
			expect(t, r, "\x0a", nil, api.Heard{Good: 1, Longs: 1}, false) // mapped now
			expect(t, r, "\x11", nil, api.Heard{Good: 1, Longs: 1}, true)  // no more
		} else {
			expect(t, r, framed("fives", 0)+framed("sixsix", 0), []string{"fives"}, api.Heard{Good: 1, Longs: 1}, false)
			expect(t, r, "\x11\x13", nil, api.Heard{Good: 1, Longs: 1}, false) // mapped still
			expect(t, r, "\x0a", nil, api.Heard{Good: 1, Longs: 1}, true)      // not yet
		}
	}
}

// TestP4_1SetKeeps: counts, the flag that has arrived, and what has arrived of a piece remain.
func TestP4_1SetKeeps(t *testing.T) {
	r := receiver(t, 10, 0)
	r.Push("\x7eabc\x7e" + "x\x7d\x7e")
	frame := framed("hello", 0)
	for i := range len(frame) {
		if e := r.Set(5+i, 1<<i); e != api.OK { // bytes of this frame are none of these
			t.Fatalf("Set(%d) = %v", 5+i, e)
		}
		var want []string
		heard := api.Heard{Shorts: 1, Aborts: 1}
		if i == len(frame)-1 {
			want, heard.Good = []string{"hello"}, 1
		}
		if got := r.Inside(); got != (i > 1) {
			t.Errorf("Set with %d bytes of a piece: Inside() = %v", i, got)
		}
		expect(t, r, frame[i:i+1], want, heard, i > 0 && i < len(frame)-1)
	}
	fresh := receiver(t, 10, 0)
	fresh.Push("ab")
	fresh.Set(10, 0)
	expect(t, fresh, "cde\x7e", nil, api.Heard{}, false) // a Set is no flag
}

// TestP4_1SetMostMidst: the maximum that holds is the one at the flag.
func TestP4_1SetMostMidst(t *testing.T) {
	for _, c := range []struct{ before, after, size int }{
		{2, 1508, 1508}, {2, 1508, 1509}, {1508, 2, 2}, {1508, 2, 3},
		{100, 101, 101}, {100, 101, 102}, {101, 100, 100}, {101, 100, 101},
	} {
		info := strings.Repeat("\x7e", c.size) // as many bytes as can be, once they are escaped
		frame := framed(info, 0)
		want, heard := []string{info}, api.Heard{Good: 1}
		if c.size > c.after {
			want, heard = nil, api.Heard{Longs: 1}
		}
		for _, at := range []int{1, 2, len(frame) / 2, len(frame) - 2, len(frame) - 1} {
			r := receiver(t, c.before, 0)
			expect(t, r, frame[:at], nil, api.Heard{}, at > 1)
			if e := r.Set(c.after, 0); e != api.OK {
				t.Fatal(e)
			}
			expect(t, r, frame[at:], want, heard, false)
		}
		r := receiver(t, c.before, 0)
		r.Push(frame[:len(frame)/2])
		r.Set(c.before, 0)
		r.Set(c.after, 0) // the last one holds
		expect(t, r, frame[len(frame)/2:], want, heard, false)
	}
}

// TestP4_1SetMapMidst: mapped bytes that arrived before remain, those from now on are ignored; and the other way round.
func TestP4_1SetMapMidst(t *testing.T) {
	const info = "\x11a\x11b"
	body := sealed(info)
	r := receiver(t, 10, 0)
	r.Push("\x7e\x11a")
	r.Set(10, 1<<0x11)
	expect(t, r, "\x11\x11\x7d\x11\x31b"+body[4:]+"\x7e", []string{info}, api.Heard{Good: 1}, false)

	r = receiver(t, 10, 1<<0x11)
	r.Push("\x7e\x11\x11\x7d\x31a\x11")
	r.Set(10, 0)
	expect(t, r, "\x11b"+body[4:]+"\x7e", []string{info}, api.Heard{Good: 1}, false)

	r = receiver(t, 10, 0)
	r.Push("\x7ea\x7d") // a mark remains too, and is not ended by what is mapped from now on
	r.Set(10, allMapped)
	expect(t, r, "\x00\x1f\x5e"+escaped(sealed("a\x7e")[2:], allMapped)+"\x7e", []string{"a\x7e"}, api.Heard{Good: 1}, false)
}

// TestP4_2Example: the chapter's.
func TestP4_2Example(t *testing.T) {
	r := receiver(t, 2, 0)
	expect(t, r, "\x7e", nil, api.Heard{}, false)
	expect(t, r, "x\x7d\x7e", nil, api.Heard{Aborts: 1}, false)
	expect(t, r, "x\x7e", nil, api.Heard{Aborts: 1, Shorts: 1}, false)
	expect(t, r, "\x7e\x7e", nil, api.Heard{Aborts: 1, Shorts: 1}, false)
	expect(t, r, Frame("ab", 0), []string{"ab"}, api.Heard{Good: 1, Aborts: 1, Shorts: 1}, false)
}

// TestP4_2Kinds: what one piece is.
func TestP4_2Kinds(t *testing.T) {
	good := sealed("abcd")
	for _, c := range []struct {
		piece string
		accm  uint32
		want  []string
		heard api.Heard
	}{
		{"", 0, nil, api.Heard{}},
		{"\x11\x13\x11", flowMapped, nil, api.Heard{}}, // empty too: all of it is mapped
		{"\x11\x13\x11", 0, nil, api.Heard{Shorts: 1}}, // not so if it isn't
		{"\x7d", 0, nil, api.Heard{Aborts: 1}},         // nothing but a mark
		{"\x7d\x7d", 0, nil, api.Heard{Aborts: 1}},     // also if it is itself being unescaped
		{"x\x7d\x7d", 0, nil, api.Heard{Aborts: 1}},
		{"\x7d\x7d\x7d", 0, nil, api.Heard{Aborts: 1}},
		{"\x7d\x7d\x7d\x7d", 0, nil, api.Heard{Aborts: 1}},
		{"abc\x7d\x5d\x7d", 0, nil, api.Heard{Aborts: 1}},
		{"x\x7d\x11", flowMapped, nil, api.Heard{Aborts: 1}}, // a mapped byte is not the last one
		{"x\x7d\x11", 0, nil, api.Heard{Shorts: 1}},
		{good + "\x7d", 0, nil, api.Heard{Aborts: 1}},  // ahead of the checksum
		{"abcdefgh\x7d", 0, nil, api.Heard{Aborts: 1}}, // ahead of the length
		{strings.Repeat("x", 4000) + "\x7d", 0, nil, api.Heard{Aborts: 1}},
		{"\x7d\x5d", 0, nil, api.Heard{Shorts: 1}}, // a mark that is escaped aborts nothing
		{"a", 0, nil, api.Heard{Shorts: 1}},
		{"\x00\x00", 0, nil, api.Heard{Shorts: 1}},                 // good, but of nothing
		{sealed("a"), 0, nil, api.Heard{Shorts: 1}},                // good, but of one byte
		{"\x7d\x5e\x7d\x5e\x7d\x5e", 0, nil, api.Heard{Shorts: 1}}, // six bytes that stand for three
		{"\x7d\x7d\x7d\x61bc", 0, nil, api.Heard{Sums: 1}},         // four, of which the first is 5D
		{"abcd", 0, nil, api.Heard{Sums: 1}},
		{"\x00\x00\x00\x00", 0, nil, api.Heard{Sums: 1}},
		{good[:3] + "x" + good[4:], 0, nil, api.Heard{Sums: 1}},
		{good[:4] + good[5:] + good[4:5], 0, nil, api.Heard{Sums: 1}}, // the upper byte first
		{good[:5], 0, nil, api.Heard{Sums: 1}},                        // its end is wanting
		{good, 0, []string{"abcd"}, api.Heard{Good: 1}},
		{good, allMapped, []string{"abcd"}, api.Heard{Good: 1}},
		{"\x7d\x41" + good[1:], 0, []string{"abcd"}, api.Heard{Good: 1}}, // what need not have been escaped
		{sealed("ab"), 0, []string{"ab"}, api.Heard{Good: 1}},
		{sealed("abcde"), 0, nil, api.Heard{Longs: 1}},
		{"abcdefg", 0, nil, api.Heard{Longs: 1}}, // ahead of the checksum
		{"abcdef", 0, nil, api.Heard{Sums: 1}},
		{strings.Repeat("\x7d\x5e", 6), 0, nil, api.Heard{Sums: 1}},  // unescaped bytes count: six
		{strings.Repeat("\x7d\x5e", 7), 0, nil, api.Heard{Longs: 1}}, // seven
		{strings.Repeat("x", 100000), 0, nil, api.Heard{Longs: 1}},
	} {
		nothing := c.heard == api.Heard{}
		r := receiver(t, 4, c.accm)
		expect(t, r, "\x7e"+c.piece, nil, api.Heard{}, !nothing)
		expect(t, r, "\x7e", c.want, c.heard, false)
		expect(t, r, "\x7e\x7e", nil, c.heard, false)
		c.heard.Good++ // the next one is not touched by it
		expect(t, r, framed("next", c.accm), []string{"next"}, c.heard, false)
	}
}

// TestP4_2Sizes: results of unescaping of 0 to 4 bytes, and around each maximum, plain and escaped.
func TestP4_2Sizes(t *testing.T) {
	for _, most := range []int{2, 3, 4, 100, 1507, 1508} {
		sizes := []int{0, 1, 2, 3, 4, 5, most - 1, most, most + 1, most + 2, most + 3, most + 4, 2*most + 4, 2*most + 5, 2*most + 6}
		for _, size := range sizes {
			for _, unit := range []string{"x", "\x7d\x5e", "\x7d\x78"} {
				piece := strings.Repeat(unit, size)
				want := api.Heard{}
				switch {
				case size == 0:
				case size > most+2:
					want.Longs = 1
				case size < 4:
					want.Shorts = 1
				default:
					want.Sums = 1
				}
				r := receiver(t, most, 0)
				expect(t, r, "\x7e"+piece+"\x7e", nil, want, false)
			}
		}
	}
}

// TestP4_2Longest: what a receiver can't keep whole is too long, or aborted, all the same, whatever comes last.
func TestP4_2Longest(t *testing.T) {
	for _, unit := range []string{"x", "\x7d\x5e", "\x7d\x7d", "x\x7d\x5e", "\x7d\x5d\x7d\x7d\x7d"} {
		for size := 3000; size <= 3040; size++ {
			body := strings.Repeat(unit, size)[:size]
			for _, tail := range []string{"", "\x7d", "y", "\x7d\x7d", "\x7dy", "y\x7d", "\x5e", "\x7d\x5e"} {
				m := &model{most: 1508}
				r := receiver(t, 1508, 0)
				s := "\x7e" + body + tail + "\x7e" + framed("behind", 0)[1:]
				want := m.push(s)
				expect(t, r, s, want, m.heard, false)
			}
		}
	}
	r := receiver(t, 1508, 0)
	frame := framed(strings.Repeat("\x7e", 1508), allMapped)
	expect(t, r, frame, []string{strings.Repeat("\x7e", 1508)}, api.Heard{Good: 1}, false)
	expect(t, r, framed(strings.Repeat("\x7e", 1509), 0), nil, api.Heard{Good: 1, Longs: 1}, false)
	for range 100 { // a piece that goes on and on
		expect(t, r, strings.Repeat("\x7d\x5d", 5000), nil, api.Heard{Good: 1, Longs: 1}, true)
	}
	c := r.Copy()
	expect(t, c, "\x7d\x7e", nil, api.Heard{Good: 1, Longs: 1, Aborts: 1}, false)
	expect(t, r, "\x7e", nil, api.Heard{Good: 1, Longs: 2}, false)
}

// TestP4_2KeepsLittle: a piece that never ends does not grow without bound.
func TestP4_2KeepsLittle(t *testing.T) {
	r := receiver(t, 2, 0)
	r.Push("\x7e")
	for range 100 {
		r.Push(strings.Repeat("\x7d\x5d", 5000))
	}
	if len(r.piece) > 4096 || cap(r.piece) > 8192 {
		t.Errorf("of a million bytes, %d are kept (room for %d)", len(r.piece), cap(r.piece))
	}
}

// TestP4_2Inside: after a flag, and a byte that counts.
func TestP4_2Inside(t *testing.T) {
	r := receiver(t, 10, flowMapped)
	for _, c := range []struct {
		s    string
		want bool
	}{
		{"", false}, {"a", false}, {"\x7d", false}, {"\x11", false}, // no flag yet
		{"\x7e", false}, {"", false}, {"\x11", false}, {"\x13\x11", false}, // nothing that counts
		{"a", true}, {"", true}, {"\x11", true}, {"b", true}, {"\x7e", false},
		{"\x7d", true}, {"\x13", true}, {"\x7e", false}, // a mark counts
		{"\x12", true}, {"\x7e\x7e", false}, {"a\x7eb", true}, {"\x7e\x11", false}, {"\x00", true},
	} {
		r.Push(c.s)
		if got := r.Inside(); got != c.want {
			t.Errorf("after %q: Inside() = %v", c.s, got)
		}
	}
}

// TestP4_2Nil: a receiver that is not there (R3).
func TestP4_2Nil(t *testing.T) {
	var r *Receiver
	if got := r.Push(framed("ab", 0)); len(got) != 0 {
		t.Errorf("Push: %q", got)
	}
	if got := r.Heard(); got != (api.Heard{}) {
		t.Errorf("Heard: %+v", got)
	}
	if r.Inside() {
		t.Error("Inside")
	}
	if got := r.Copy(); got != nil {
		t.Errorf("Copy: %v", got)
	}
	for most := range mosts() { // named ahead of ErrArg
		if e := r.Set(most, 0); e != api.ErrNil {
			t.Errorf("Set(%d) = %v", most, e)
		}
	}
}

// TestP4_2Copy: a copy is equal at each place of a stream, and goes on alone.
func TestP4_2Copy(t *testing.T) {
	stream := "noise" + framed("first\x7e\x11", flowMapped) + "\x11x\x7d\x7e" + "abc\x7eabcdef\x7e" +
		strings.Repeat("l", 20) + "\x7e" + framed("last", flowMapped)
	for at := range len(stream) + 1 {
		m := &model{most: 10, accm: flowMapped}
		r := receiver(t, 10, flowMapped)
		m.push(stream[:at])
		r.Push(stream[:at])
		c := r.Copy()
		if c == nil || c == r {
			t.Fatalf("Copy() = %p of %p", c, r)
		}
		if c.Heard() != m.heard || c.Inside() != m.inside() {
			t.Fatalf("copied at %d: %+v, %v", at, c.Heard(), c.Inside())
		}
		// The one is led astray ahead of the other, and then the other way round.
		c.Set(2, allMapped)
		c.Push("ZZZZ\x7eZZZZZZZ\x7eZ")
		expect(t, r, "", nil, m.heard, m.inside())
		again := r.Copy()
		r.Set(2, allMapped)
		r.Push("ZZZZ\x7eZZZZZZZ\x7eZ")
		want := m.push(stream[at:])
		expect(t, again, stream[at:], want, m.heard, m.inside())
	}
}

// TestP4_2CopyBytes: bytes of one piece that arrive at both are not mixed, also behind a long piece, for which room was made.
func TestP4_2CopyBytes(t *testing.T) {
	r := receiver(t, 1508, 0)
	r.Push("\x7e" + strings.Repeat("l", 2000) + "\x7e")
	one, two := sealed("abcd one"), sealed("abcd two")
	r.Push(one[:4])
	c := r.Copy()
	for i := 4; i < len(one); i++ {
		r.Push(one[i : i+1])
		c.Push(two[i : i+1])
	}
	expect(t, r, "\x7e", []string{"abcd one"}, api.Heard{Good: 1, Longs: 1}, false)
	expect(t, c, "\x7e", []string{"abcd two"}, api.Heard{Good: 1, Longs: 1}, false)
}

// TestP4_2Memory: a list that was returned is the caller's own (R5).
func TestP4_2Memory(t *testing.T) {
	r := receiver(t, 10, 0)
	first := r.Push(framed("one", 0) + framed("two", 0))
	second := r.Push(framed("six", 0) + framed("ten", 0))
	if !slices.Equal(first, []string{"one", "two"}) {
		t.Errorf("the first list is %q now", first)
	}
	first[0], first[1] = "x", "y"
	if !slices.Equal(second, []string{"six", "ten"}) {
		t.Errorf("the second list is %q now", second)
	}
}

// TestP4_3Received: each sample comes unchanged, with each map, whatever is ahead of the first flag.
func TestP4_3Received(t *testing.T) {
	for _, accm := range maps() {
		for _, noise := range []string{"", "x", "\x7d", "noise\x7d\x5e\x00\x11", everyByte()[:0x7e], strings.Repeat("n\x7d", 4000)} {
			r := receiver(t, 1508, accm)
			var sent strings.Builder
			sent.WriteString(noise)
			for _, info := range samples() {
				sent.WriteString(Frame(info, accm))
			}
			expect(t, r, sent.String(), samples(), api.Heard{Good: len(samples())}, false)
		}
	}
}

// TestP4_3EveryPair: all informations of two bytes, the shortest that are received.
func TestP4_3EveryPair(t *testing.T) {
	for _, accm := range []uint32{0, allMapped, flowMapped} {
		r := receiver(t, 2, accm)
		for i := range 1 << 16 {
			info := string([]byte{byte(i >> 8), byte(i & 0xff)})
			if got := r.Push(Frame(info, accm)); len(got) != 1 || got[0] != info {
				t.Fatalf("%q, %08x: %q", info, accm, got)
			}
		}
		if got := r.Heard(); got != (api.Heard{Good: 1 << 16}) {
			t.Errorf("%08x: %+v", accm, got)
		}
	}
}

// TestP4_3EverySize: informations of all sizes from two to the maximum come, those of one byte more and of one or none don't.
func TestP4_3EverySize(t *testing.T) {
	for _, most := range []int{2, 3, 9, 1508} {
		r := receiver(t, most, 0)
		good := 0
		for size := 2; size <= most; size++ {
			info := strings.Repeat("s", size)
			good++
			expect(t, r, Frame(info, 0), []string{info}, api.Heard{Good: good}, false)
		}
		expect(t, r, Frame("", 0)+Frame("a", 0), nil, api.Heard{Good: good, Shorts: 2}, false)
		expect(t, r, Frame(strings.Repeat("s", most+1), 0), nil, api.Heard{Good: good, Shorts: 2, Longs: 1}, false)
	}
}

// TestP4_3OneFlag: one flag between two frames is sufficient, more do no harm.
func TestP4_3OneFlag(t *testing.T) {
	for _, accm := range maps() {
		for flags := 1; flags <= 4; flags++ {
			sent := "noise"
			for _, info := range samples() {
				sent += strings.Repeat("\x7e", flags) + escaped(sealed(info), accm)
			}
			r := receiver(t, 1508, accm)
			expect(t, r, sent+"\x7e", samples(), api.Heard{Good: len(samples())}, false)
		}
	}
}

// TestP4_3Inserted: mapped bytes at each place, the first, the last, those behind a mark and behind a flag among them.
func TestP4_3Inserted(t *testing.T) {
	infos := []string{"\x7d\x7e", "a\x11b\x13", "\x7eabc\x00\x1f\x7d"}
	for _, accm := range maps() {
		sent := framed(infos[0], accm) + framed(infos[1], accm)[1:] + framed(infos[2], accm)
		for at := range len(sent) + 1 {
			for b := byte(0); b < 32; b++ {
				if !isMapped(accm, b) {
					continue
				}
				for times := 1; times <= 3; times++ {
					r := receiver(t, 7, accm)
					s := sent[:at] + strings.Repeat(string([]byte{b}), times) + sent[at:]
					expect(t, r, s, infos, api.Heard{Good: 3}, false)
				}
			}
		}
		if t.Failed() {
			return
		}
	}
}

// TestP4_3InsertedEverywhere: mapped bytes at all places at once, more of them than any maximum.
func TestP4_3InsertedEverywhere(t *testing.T) {
	for _, accm := range []uint32{flowMapped, flowMapped | 1, allMapped} {
		for _, info := range samples() {
			s := strings.Repeat("\x11", 4000)
			for _, b := range []byte(Frame(info, accm)) {
				s += string([]byte{b}) + "\x13\x11\x13\x13"
			}
			r := receiver(t, 1508, accm)
			expect(t, r, s, []string{info}, api.Heard{Good: 1}, false)
		}
	}
}

// stream has pieces of all kinds, and what stands between them.
func stream() (s string, infos []string) {
	infos = []string{"ab", "\x7e\x7d\x11", "12345678", "\x7d\x5e"}
	s = "noise\x7d" + framed(infos[0], flowMapped) + "\x7e\x11\x7e" + framed(infos[1], flowMapped)[1:] +
		"x\x7d\x7e" + "y\x7d\x7d\x7e" + "\x11z\x7e" + "abcd\x7e" + "0123456789A\x7e" + "\x7d\x11\x7e" +
		framed(infos[2], flowMapped) + framed(infos[3], flowMapped)[1:] + "rest\x7d"
	return s, infos
}

// TestP4_3Cuts: what is received, and counted, is the same however the bytes are cut: whole, one at a time, in two and three at all places, in equal pieces of each size.
func TestP4_3Cuts(t *testing.T) {
	s, infos := stream()
	heard := api.Heard{Good: 4, Aborts: 3, Longs: 1, Shorts: 1, Sums: 1}
	check := func(cuts ...int) {
		t.Helper()
		r := receiver(t, 8, flowMapped)
		var got []string
		from := 0
		for _, to := range append(cuts, len(s)) {
			got = append(got, r.Push(s[from:to])...)
			from = to
		}
		if !slices.Equal(got, infos) || r.Heard() != heard || !r.Inside() {
			t.Fatalf("cut at %v: %q, %+v, %v", cuts, got, r.Heard(), r.Inside())
		}
	}
	check()
	for one := range len(s) + 1 {
		check(one)
		for two := one; two <= len(s); two++ {
			check(one, two)
		}
	}
	for size := 1; size <= len(s); size++ {
		var cuts []int
		for at := size; at < len(s); at += size {
			cuts = append(cuts, at)
		}
		check(cuts...)
	}
}

// numbers returns what gives numbers below n, the same ones in each run.
func numbers(seed uint32) func(n int) int {
	return func(n int) int {
		seed = seed*1664525 + 1013904223
		return int(seed>>8) % n
	}
}

// scramble returns bytes that are often flags, marks, mapped ones and frames.
func scramble(next func(int) int, accm uint32) string {
	var out []byte
	for range next(12) {
		switch next(8) {
		case 0, 1:
			out = append(out, 0x7e)
		case 2:
			out = append(out, 0x7d)
		case 3:
			out = append(out, byte(next(32)))
		case 4:
			out = append(out, escaped(sealed(strings.Repeat("\x11~", next(5))), accm)...)
		case 5:
			out = append(out, framed(strings.Repeat("i", next(9)), accm)...)
		case 6:
			out = append(out, sealed("z")...)
		default:
			out = append(out, byte(next(256)))
		}
	}
	return string(out)
}

// TestP4_3AsDefined: long runs of scrambled bytes, with Sets between them, hold against the definition; a second receiver gets them one by one.
func TestP4_3AsDefined(t *testing.T) {
	for seed := range uint32(300) {
		next := numbers(seed)
		most, accm := 2+next(8), uint32(1)<<next(32)|uint32(1)<<next(32)
		m := &model{most: most, accm: accm}
		r, slow := receiver(t, most, accm), receiver(t, most, accm)
		for step := range 200 {
			if next(6) == 0 {
				most, accm = 2+next(8), ^uint32(0)>>next(32)
				m.most, m.accm = most, accm
				if r.Set(most, accm) != api.OK || slow.Set(most, accm) != api.OK {
					t.Fatal("Set")
				}
			}
			if next(20) == 0 {
				slow = slow.Copy()
			}
			s := scramble(next, accm)
			want, got := m.push(s), r.Push(s)
			var bits []string
			for i := range len(s) {
				bits = append(bits, slow.Push(s[i:i+1])...)
			}
			if !slices.Equal(got, want) || !slices.Equal(bits, want) {
				t.Fatalf("seed %d, step %d: Push(%q) = %q and %q, want %q", seed, step, s, got, bits, want)
			}
			if r.Heard() != m.heard || slow.Heard() != m.heard || r.Inside() != m.inside() || slow.Inside() != m.inside() {
				t.Fatalf("seed %d, step %d: %+v and %+v, want %+v", seed, step, r.Heard(), slow.Heard(), m.heard)
			}
		}
		if m.heard.Good == 0 || m.heard.Aborts == 0 || m.heard.Longs == 0 || m.heard.Shorts == 0 || m.heard.Sums == 0 {
			t.Fatalf("seed %d: a kind is wanting: %+v", seed, m.heard)
		}
	}
}
