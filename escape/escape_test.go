package escape

import (
	"strings"
	"testing"

	"halyard/api"
)

// isMapped is the chapter's definition, by the number of the bit.
func isMapped(accm uint32, b byte) bool {
	bit := uint32(1)
	for number := byte(0); number < 32; number++ {
		if number == b {
			return accm&bit != 0
		}
		bit *= 2
	}
	return false
}

// escapedByte is the chapter's definition of one byte's bytes.
func escapedByte(b byte, accm uint32) string {
	if b != 0x7d && b != 0x7e && !isMapped(accm, b) {
		return string([]byte{b})
	}
	if b&0x20 != 0 {
		return string([]byte{0x7d, b - 0x20})
	}
	return string([]byte{0x7d, b + 0x20})
}

// escaped is the chapter's definition of a string's bytes.
func escaped(s string, accm uint32) string {
	var out strings.Builder
	for i := 0; i < len(s); i++ {
		out.WriteString(escapedByte(s[i], accm))
	}
	return out.String()
}

// everyByte has each byte once, in order.
func everyByte() string {
	var b [256]byte
	for i := range b {
		b[i] = byte(i)
	}
	return string(b[:])
}

// maps are those with no bit, with all, with one, with all but one, and some between.
func maps() []uint32 {
	l := []uint32{0, 0xffffffff, 0x000a0000, 0x400, 0x80000001, 0x55555555, 0x0000ffff}
	for bit := range 32 {
		l = append(l, 1<<bit, ^uint32(1<<bit))
	}
	return l
}

// samples are strings with marks, flags and control characters at each kind of place.
func samples() []string {
	l := []string{
		"", "a", "\x7d", "\x7e", "\x00", "\x1f", "\x20", "\x5d", "\x5e",
		"\x7d\x7d", "\x7d\x7e", "\x7e\x7d", "\x7e\x7e", "\x7d\x5d", "\x7d\x5e", "\x7d\x20",
		"\x7d\x7d\x7d", "\x7e\x41\x7d", "a\x7d", "\x7da", "a\x7eb", "\x0a\x0b", "\x11\x13\x12",
		"\xff\x03\xc0\x21", "\xc3\xa9\xe2\x82\xac", "\xff\xfe\x80\xfd", // runes and broken ones: bytes all the same
		everyByte(), everyByte() + everyByte(), strings.Repeat("\x7e", 1500), strings.Repeat("\x7d", 1501),
		strings.Repeat("\x00\x7d\x1f", 500), strings.Repeat("plain", 300),
	}
	return l
}

// insert returns s with the text ahead of its byte at.
func insert(s string, at int, text string) string {
	return s[:at] + text + s[at:]
}

// TestP3_1Mapped: each byte with each map; 31 is the last that can be mapped.
func TestP3_1Mapped(t *testing.T) {
	for _, accm := range maps() {
		for _, b := range []byte(everyByte()) {
			if got, want := Mapped(accm, b), isMapped(accm, b); got != want {
				t.Fatalf("Mapped(%08x, %02x) = %v", accm, b, got)
			}
		}
	}
	for _, c := range []struct {
		accm uint32
		b    byte
		want bool
	}{
		{0, 0, false}, {1, 0, true}, {2, 0, false}, {2, 1, true},
		{0x400, 0x0a, true}, {0x400, 0x0b, false}, {0x400, 0x15, false}, // bits are told from the lowest one
		{1 << 31, 31, true}, {1 << 30, 31, false}, {0xffffffff, 31, true},
		{0xffffffff, 32, false}, {1, 32, false}, {1, 64, false}, {1, 128, false}, // 32 does not begin again at 0
		{0xffffffff, 0x7d, false}, {0xffffffff, 0x7e, false}, {0xffffffff, 0xff, false},
	} {
		if got := Mapped(c.accm, c.b); got != c.want {
			t.Errorf("Mapped(%08x, %02x) = %v", c.accm, c.b, got)
		}
	}
}

// TestP3_1Known: the chapter's examples, and others whose bytes are written out.
func TestP3_1Known(t *testing.T) {
	for _, c := range []struct {
		s    string
		accm uint32
		want string
	}{
		{"", 0, ""},
		{"", 0xffffffff, ""},
		{"\x7e\x41\x7d", 0, "\x7d\x5e\x41\x7d\x5d"},
		{"\x0a\x0b", 0x400, "\x7d\x2a\x0b"},
		{"\x7d\x7e", 0, "\x7d\x5d\x7d\x5e"},
		{"\x7d\x7d", 0, "\x7d\x5d\x7d\x5d"}, // the second is escaped for itself, not taken with the first
		{"\x7d\x5e", 0, "\x7d\x5d\x5e"},     // what is escaped already is escaped once more
		{"\x1f\x20", 0xffffffff, "\x7d\x3f\x20"},
		{"\x1f\x20", 1 << 31, "\x7d\x3f\x20"},
		{"\x1f\x20", 1 << 30, "\x1f\x20"},
		{"\x00", 1, "\x7d\x20"},
		{"\x00", 2, "\x00"},
		{"\x00\x1f\x11", 0, "\x00\x1f\x11"},
		{"\x5d\x5e\x7c\x7f\xfd\xfe\xff", 0xffffffff, "\x5d\x5e\x7c\x7f\xfd\xfe\xff"},
		{"\x80\x9f", 0xffffffff, "\x80\x9f"}, // 80 to 9F are no control characters of a map
		{"\xff\x03\xc0\x21", 0xffffffff, "\xff\x7d\x23\xc0\x21"},
	} {
		if got := Put(c.s, c.accm); got != c.want {
			t.Errorf("Put(%q, %08x) = %q, want %q", c.s, c.accm, got, c.want)
		}
		if got := Size(c.s, c.accm); got != len(c.want) {
			t.Errorf("Size(%q, %08x) = %d, want %d", c.s, c.accm, got, len(c.want))
		}
	}
}

// TestP3_1EveryByte: each byte alone, and between two others, with each map.
func TestP3_1EveryByte(t *testing.T) {
	for _, accm := range maps() {
		for _, b := range []byte(everyByte()) {
			one := string([]byte{b})
			for _, s := range []string{one, "a" + one + "b", "\x7d" + one, one + "\x7e"} {
				want := escaped(s, accm)
				if got := Put(s, accm); got != want {
					t.Fatalf("Put(%q, %08x) = %q, want %q", s, accm, got, want)
				}
				if got := Size(s, accm); got != len(want) {
					t.Fatalf("Size(%q, %08x) = %d, want %d", s, accm, got, len(want))
				}
			}
		}
	}
}

// TestP3_1Samples: longer strings with each map, and the same when asked again (R6).
func TestP3_1Samples(t *testing.T) {
	for range 2 {
		for _, accm := range maps() {
			for _, s := range samples() {
				want := escaped(s, accm)
				if got := Put(s, accm); got != want {
					t.Fatalf("Put(%.20q, %08x) = %.40q, want %.40q", s, accm, got, want)
				}
				if got := Size(s, accm); got != len(want) {
					t.Fatalf("Size(%.20q, %08x) = %d, want %d", s, accm, got, len(want))
				}
			}
		}
	}
}

// TestP3_2Get: what is unescaped, and what is no escaped string; nothing beside an error (R2).
func TestP3_2Get(t *testing.T) {
	for _, c := range []struct {
		s, want string
		e       api.Errno
	}{
		{"", "", api.OK},
		{"abc", "abc", api.OK},
		{"\x7d\x5e\x41", "\x7e\x41", api.OK},
		{"\x7d\x5d", "\x7d", api.OK},
		{"\x7d\x20", "\x00", api.OK},
		{"\x7d\x3f", "\x1f", api.OK},
		{"\x00\x1f\x20", "\x00\x1f\x20", api.OK}, // without a map, control characters are as any others
		{"\x7d\x00", "\x20", api.OK},             // a byte that need not have been escaped is unescaped too
		{"\x7d\x61", "\x41", api.OK},
		{"\x7d\xff", "\xdf", api.OK},
		{"\x41\x7d", "", api.ErrForm},
		{"\x7d", "", api.ErrForm},
		{"\x7d\x7d", "\x5d", api.OK}, // the last one is itself being unescaped
		{"\x7d\x7d\x7d", "", api.ErrForm},
		{"\x7d\x7d\x7d\x7d", "\x5d\x5d", api.OK},
		{"\x7d\x7d\x5e", "\x5d\x5e", api.OK}, // what is unescaped marks nothing
		{"\x7d\x5d\x5e", "\x7d\x5e", api.OK},
		{"\x7d\x5d\x7d", "", api.ErrForm},
		{"\x7e", "", api.ErrForm},
		{"\x7eab", "", api.ErrForm},
		{"a\x7eb", "", api.ErrForm},
		{"ab\x7e", "", api.ErrForm},
		{"a\x7d\x7e", "", api.ErrForm}, // a flag that is being unescaped is one all the same
		{"a\x7d\x7eb", "", api.ErrForm},
		{"\x7d\x7d\x7e", "", api.ErrForm},
		{"\x7e\x7d", "", api.ErrForm},
		{"\x7e\x7d\x5e", "", api.ErrForm},
	} {
		if got, e := Get(c.s); got != c.want || e != c.e {
			t.Errorf("Get(%q) = %q, %v, want %q, %v", c.s, got, e, c.want, c.e)
		}
	}
}

// TestP3_2GetEveryByte: each byte, plain and behind a mark.
func TestP3_2GetEveryByte(t *testing.T) {
	for _, b := range []byte(everyByte()) {
		plain := "a" + string([]byte{b}) + "b"
		want, wantErr := plain, api.OK
		switch b {
		case 0x7d:
			want = "aB" // it unescapes what comes behind it
		case 0x7e:
			want, wantErr = "", api.ErrForm
		}
		if got, e := Get(plain); got != want || e != wantErr {
			t.Errorf("Get(%q) = %q, %v", plain, got, e)
		}
		marked := "a\x7d" + string([]byte{b}) + "b"
		want, wantErr = "a"+string([]byte{b ^ 0x20})+"b", api.OK
		if b == 0x7e {
			want, wantErr = "", api.ErrForm
		}
		if got, e := Get(marked); got != want || e != wantErr {
			t.Errorf("Get(%q) = %q, %v", marked, got, e)
		}
	}
}

// TestP3_2GetFlagAnywhere: a flag at each place of an escaped string is refused, and so is a mark behind its end.
func TestP3_2GetFlagAnywhere(t *testing.T) {
	for _, accm := range []uint32{0, 0x400, 0xffffffff} {
		for _, s := range []string{"", "a", "\x7d\x7e", "123456789", everyByte()} {
			sent := escaped(s, accm)
			for at := range len(sent) + 1 {
				other := insert(sent, at, "\x7e")
				if got, e := Get(other); got != "" || e != api.ErrForm {
					t.Fatalf("Get(%q) = %q, %v", other, got, e)
				}
			}
			if got, e := Get(sent + "\x7d"); got != "" || e != api.ErrForm {
				t.Fatalf("Get(%q) = %q, %v", sent+"\x7d", got, e)
			}
		}
	}
}

// TestP3_2Strip: the mapped bytes go, wherever they are, and no others.
func TestP3_2Strip(t *testing.T) {
	for _, c := range []struct {
		s    string
		accm uint32
		want string
	}{
		{"", 0, ""},
		{"", 0xffffffff, ""},
		{"\x0a\x41", 0x400, "\x41"},
		{"\x0a\x0a\x0a", 0x400, ""},
		{"\x0aa\x0ab\x0a", 0x400, "ab"},
		{"\x09\x0b", 0x400, "\x09\x0b"},
		{"\x00a\x1f\x20\x11", 0x80000001, "a\x20\x11"},
		{"\x00\x1f", 0, "\x00\x1f"},
		{"\x1e\x1f\x20\x21", 0xffffffff, "\x20\x21"},
		{"\x7d\x0a\x5e", 0x400, "\x7d\x5e"},
		{"\x7d\x7e\x7d", 0xffffffff, "\x7d\x7e\x7d"}, // marks and flags are not mapped
		{"\x80\xff", 0xffffffff, "\x80\xff"},
	} {
		if got := Strip(c.s, c.accm); got != c.want {
			t.Errorf("Strip(%q, %08x) = %q, want %q", c.s, c.accm, got, c.want)
		}
	}
	for _, accm := range maps() {
		var kept []byte
		for _, b := range []byte(everyByte()) {
			if !isMapped(accm, b) {
				kept = append(kept, b)
			}
		}
		if got := Strip(everyByte(), accm); got != string(kept) {
			t.Errorf("Strip(every byte, %08x) = %q, want %q", accm, got, kept)
		}
	}
}

// TestP3_3Inverse: Get gives back what Put was given, with any map.
func TestP3_3Inverse(t *testing.T) {
	for _, accm := range maps() {
		for _, s := range samples() {
			if got, e := Get(Put(s, accm)); got != s || e != api.OK {
				t.Fatalf("Get(Put(%.20q, %08x)) = %.20q, %v", s, accm, got, e)
			}
			twice := Put(Put(s, accm), accm)
			once, e := Get(twice)
			if got, f := Get(once); got != s || e != api.OK || f != api.OK {
				t.Fatalf("twice, %.20q, %08x: %.20q, %v, %v", s, accm, got, e, f)
			}
		}
	}
}

// TestP3_3EveryPair: all strings of two bytes, with no map, a whole one and one between.
func TestP3_3EveryPair(t *testing.T) {
	for _, accm := range []uint32{0, 0xffffffff, 0x000a0400} {
		for i := range 1 << 16 {
			s := string([]byte{byte(i >> 8), byte(i & 0xff)})
			if got, e := Get(Put(s, accm)); got != s || e != api.OK {
				t.Fatalf("Get(Put(%q, %08x)) = %q, %v", s, accm, got, e)
			}
		}
	}
}

// TestP3_3Inserted: mapped bytes at each place, the first, the last and those behind a mark among them, do no harm once they are stripped.
func TestP3_3Inserted(t *testing.T) {
	for _, accm := range maps() {
		for _, s := range []string{"", "a", "\x7d", "\x7e\x41\x7d", "\x00\x0a\x1f\x20", "123\x7d\x7d\x7e\x13"} {
			sent := Put(s, accm)
			for at := range len(sent) + 1 {
				for b := byte(0); b < 32; b++ {
					if !isMapped(accm, b) {
						continue
					}
					for _, text := range []string{string([]byte{b}), string([]byte{b, b})} {
						other := insert(sent, at, text)
						if got := Strip(other, accm); got != sent {
							t.Fatalf("Strip(%q, %08x) = %q, want %q", other, accm, got, sent)
						}
						if got, e := Get(Strip(other, accm)); got != s || e != api.OK {
							t.Fatalf("Get(Strip(%q, %08x)) = %q, %v, want %q", other, accm, got, e, s)
						}
					}
				}
			}
		}
	}
}

// TestP3_3InsertedEverywhere: a mapped byte at all places at once.
func TestP3_3InsertedEverywhere(t *testing.T) {
	for _, s := range samples() {
		other := "\x13"
		for _, b := range []byte(Put(s, 0x000a0000)) {
			other += string([]byte{b}) + "\x11\x13"
		}
		if got, e := Get(Strip(other, 0x000a0000)); got != s || e != api.OK {
			t.Fatalf("%.20q: %.20q, %v", s, got, e)
		}
	}
}

// TestP3_3Clean: what Put returns has no flag and no mapped byte, so that Strip leaves it; it is at most twice as long, and just that where all is escaped.
func TestP3_3Clean(t *testing.T) {
	for _, accm := range maps() {
		for _, s := range samples() {
			sent := Put(s, accm)
			for i := 0; i < len(sent); i++ {
				if sent[i] == 0x7e || isMapped(accm, sent[i]) {
					t.Fatalf("Put(%.20q, %08x) has the byte %02x", s, accm, sent[i])
				}
			}
			if got := Strip(sent, accm); got != sent {
				t.Fatalf("Strip(%.20q, %08x) = %.20q", sent, accm, got)
			}
			if len(sent) < len(s) || len(sent) > 2*len(s) {
				t.Fatalf("Put(%.20q, %08x) has %d bytes, of %d", s, accm, len(sent), len(s))
			}
		}
		if got := len(Put(strings.Repeat("\x7e\x7d", 700), accm)); got != 2800 {
			t.Errorf("1400 bytes, all escaped with %08x: %d", accm, got)
		}
	}
	if got := len(Put(everyByte()[:32], 0xffffffff)); got != 64 {
		t.Errorf("all control characters: %d bytes", got)
	}
}
