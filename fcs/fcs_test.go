package fcs

import (
	"strings"
	"testing"

	"halyard/api"
)

// slowMore is the chapter's definition, bit by bit.
func slowMore(c uint16, s string) uint16 {
	for i := 0; i < len(s); i++ {
		for bit := 0; bit < 8; bit++ {
			xor := c&1 ^ uint16(s[i]>>bit)&1
			c >>= 1
			if xor == 1 {
				c ^= 0x8408
			}
		}
	}
	return c
}

// everyByte has each byte once, in order.
func everyByte() string {
	var b [256]byte
	for i := range b {
		b[i] = byte(i)
	}
	return string(b[:])
}

// samples are strings of all lengths that the chapter tells apart, and some long ones.
func samples() []string {
	return []string{
		"", "\x00", "\x01", "\x80", "\xff", "a",
		"\x00\x00", "\xff\xff", "ab", "\x00\x00\x00", "abc", "\xff\x03\xc0\x21",
		"123456789", "\xc3\xa9\xe2\x82\xac", "\xff\xfe\x80", // runes and broken ones: bytes all the same
		everyByte(), strings.Repeat("\x00", 1000), strings.Repeat("\x7e\x7d", 800),
	}
}

// flip returns s with the bits of pattern flipped, the pattern's lowest one at the bit at, of each byte the lowest first.
func flip(s string, at int, pattern uint32) string {
	b := []byte(s)
	for i := range 32 {
		if pattern>>i&1 == 1 {
			b[(at+i)/8] ^= 1 << ((at + i) % 8)
		}
	}
	return string(b)
}

// TestP2_1Known: published values and the chapter's.
func TestP2_1Known(t *testing.T) {
	for _, c := range []struct {
		s        string
		register uint16
		sum      uint16
		sealed   string
	}{
		{"", 0xffff, 0, "\x00\x00"},
		{"123456789", 0x6f91, 0x906e, "123456789\x6e\x90"},
		{"\x00", 0x0f87, 0xf078, "\x00\x78\xf0"},
		{"\xff", 0x00ff, 0xff00, "\xff\x00\xff"},
		{"\x00\x00", 0xf0b8, 0x0f47, "\x00\x00\x47\x0f"},
	} {
		if got := More(0xffff, c.s); got != c.register {
			t.Errorf("More(ffff, %q) = %04x, want %04x", c.s, got, c.register)
		}
		if got := Sum(c.s); got != c.sum {
			t.Errorf("Sum(%q) = %04x, want %04x", c.s, got, c.sum)
		}
		if got := Seal(c.s); got != c.sealed {
			t.Errorf("Seal(%q) = %q, want %q", c.s, got, c.sealed)
		}
	}
}

// TestP2_1EveryRegister: any register may be the start, over no byte, one and three.
func TestP2_1EveryRegister(t *testing.T) {
	for i := range 1 << 16 {
		c := uint16(i)
		for _, s := range []string{"", "\x00", "\xa5", "a\x00\xff"} {
			if got, want := More(c, s), slowMore(c, s); got != want {
				t.Fatalf("More(%04x, %q) = %04x, want %04x", c, s, got, want)
			}
		}
	}
}

// TestP2_1EveryByte: each byte, from registers with each bit set and none.
func TestP2_1EveryByte(t *testing.T) {
	registers := []uint16{0, 0xffff, 0xf0b8, 0x8408}
	for bit := range 16 {
		registers = append(registers, 1<<bit)
	}
	for _, c := range registers {
		for _, b := range []byte(everyByte()) {
			s := string([]byte{b})
			if got, want := More(c, s), slowMore(c, s); got != want {
				t.Fatalf("More(%04x, %q) = %04x, want %04x", c, s, got, want)
			}
		}
	}
}

// TestP2_1Samples: More, Sum and Seal of all samples, and the same when asked again (R6).
func TestP2_1Samples(t *testing.T) {
	for range 2 {
		for _, s := range samples() {
			register := slowMore(0xffff, s)
			if got := More(0xffff, s); got != register {
				t.Errorf("More(ffff, %.20q) = %04x, want %04x", s, got, register)
			}
			sum := register ^ 0xffff
			if got := Sum(s); got != sum {
				t.Errorf("Sum(%.20q) = %04x, want %04x", s, got, sum)
			}
			want := s + string([]byte{byte(sum & 0xff), byte(sum >> 8)})
			if got := Seal(s); got != want {
				t.Errorf("Seal(%.20q) = %q, want %q", s, got, want)
			}
		}
	}
}

// TestP2_1Pieces: a register goes on wherever a string is cut.
func TestP2_1Pieces(t *testing.T) {
	s := everyByte()
	for _, c := range []uint16{0, 0xffff, 0x1234} {
		whole := slowMore(c, s)
		for n := range len(s) + 1 {
			if got := More(More(c, s[:n]), s[n:]); got != whole {
				t.Fatalf("cut at %d, from %04x: %04x, want %04x", n, c, got, whole)
			}
		}
	}
}

// TestP2_2Open: what is sealed, what wants bytes, what is not good; nothing beside an error (R2).
func TestP2_2Open(t *testing.T) {
	for _, c := range []struct {
		s, want string
		e       api.Errno
	}{
		{"", "", api.ErrEnd},
		{"\x00", "", api.ErrEnd},
		{"x", "", api.ErrEnd},
		{"\xff", "", api.ErrEnd},
		{"\x00\x00", "", api.OK},
		{"\x00\x01", "", api.ErrForm},
		{"\x01\x00", "", api.ErrForm},
		{"\xff\xff", "", api.ErrForm},
		{"ab", "", api.ErrForm},
		{"\x00\x78\xf0", "\x00", api.OK},
		{"\x00\xf0\x78", "", api.ErrForm}, // the upper byte first
		{"\xff\x00\xff", "\xff", api.OK},
		{"\xff\xff\x00", "", api.ErrForm},
		{"\x00\x00\x00", "", api.ErrForm},
		{"abc", "", api.ErrForm},
		{"\x00\x87\x0f", "", api.ErrForm}, // the register itself, not inverted
		{"123456789\x6e\x90", "123456789", api.OK},
		{"123456789\x90\x6e", "", api.ErrForm},
		{"123456789\x6e", "", api.ErrForm},
		{"123456789\x6e\x90\x00", "", api.ErrForm},
		{"23456789\x6e\x90", "", api.ErrForm},
		{"0123456789\x6e\x90", "", api.ErrForm},
	} {
		if got := Good(c.s); got != (c.e == api.OK) {
			t.Errorf("Good(%q) = %v", c.s, got)
		}
		if got, e := Open(c.s); got != c.want || e != c.e {
			t.Errorf("Open(%q) = %q, %v, want %q, %v", c.s, got, e, c.want, c.e)
		}
	}
}

// TestP2_2Short: whatever its one byte is, it wants bytes ahead of being none of the kind.
func TestP2_2Short(t *testing.T) {
	for _, b := range []byte(everyByte()) {
		s := string([]byte{b})
		if Good(s) {
			t.Errorf("Good(%q)", s)
		}
		if got, e := Open(s); got != "" || e != api.ErrEnd {
			t.Errorf("Open(%q) = %q, %v, want ErrEnd", s, got, e)
		}
	}
}

// TestP2_2Register: good is what has F0B8, over all strings of two bytes and many of three.
func TestP2_2Register(t *testing.T) {
	for _, front := range []string{"", "\x00", "a", "\xff"} {
		for i := range 1 << 16 {
			s := front + string([]byte{byte(i >> 8), byte(i & 0xff)})
			want := slowMore(0xffff, s) == 0xf0b8
			if got := Good(s); got != want {
				t.Fatalf("Good(%q) = %v", s, got)
			}
			if got, e := Open(s); want && (got != front || e != api.OK) || !want && (got != "" || e != api.ErrForm) {
				t.Fatalf("Open(%q) = %q, %v", s, got, e)
			}
		}
	}
}

// TestP2_3Sealed: what is sealed is good and opens to what it was, sealed once or twice.
func TestP2_3Sealed(t *testing.T) {
	for _, s := range samples() {
		once := Seal(s)
		if got, e := Open(once); !Good(once) || got != s || e != api.OK {
			t.Errorf("Open(Seal(%.20q)) = %.20q, %v", s, got, e)
		}
		twice := Seal(once)
		if got, e := Open(twice); !Good(twice) || got != once || e != api.OK {
			t.Errorf("Open(Seal(Seal(%.20q))) = %.20q, %v", s, got, e)
		}
	}
}

// TestP2_3NothingElse: of all two bytes behind a string, only its checksum makes it good.
func TestP2_3NothingElse(t *testing.T) {
	for _, s := range []string{"", "\x00", "\xff", "ab", "123456789"} {
		sealed := Seal(s)
		count := 0
		for i := range 1 << 16 {
			other := s + string([]byte{byte(i >> 8), byte(i & 0xff)})
			if Good(other) {
				count++
			}
			if Good(other) != (other == sealed) {
				t.Fatalf("Good(%q), while %q is sealed", other, sealed)
			}
		}
		if count != 1 {
			t.Errorf("%d good ones of %q", count, s)
		}
	}
}

// TestP2_3EveryBurst: all flips within 16 bits in a row, at each place of short strings, the first and the last among them.
func TestP2_3EveryBurst(t *testing.T) {
	for _, s := range []string{"", "\x00", "a\xff"} {
		sealed := Seal(s)
		for at := range 8*len(sealed) - 15 {
			for pattern := uint32(1); pattern < 1<<16; pattern++ {
				if other := flip(sealed, at, pattern); Good(other) {
					t.Fatalf("%04x flipped at bit %d of %q: still good", pattern, at, sealed)
				}
			}
		}
	}
}

// TestP2_3LongBursts: one bit, two, a byte and 16 in a row, wherever they fit into long strings; Open refuses them.
func TestP2_3LongBursts(t *testing.T) {
	for _, s := range []string{"123456789", everyByte(), strings.Repeat("\x00", 300)} {
		sealed := Seal(s)
		for _, pattern := range []uint32{1, 3, 0x81, 0xff, 0x101, 0x8001, 0x8408, 0x1021, 0xffff} {
			for at := 0; at < 8*len(sealed); at++ {
				if at+16 > 8*len(sealed) && pattern>>(8*len(sealed)-at) != 0 {
					continue
				}
				other := flip(sealed, at, pattern)
				if got, e := Open(other); Good(other) || got != "" || e != api.ErrForm {
					t.Fatalf("%04x flipped at bit %d of %.20q: %q, %v", pattern, at, sealed, got, e)
				}
			}
		}
	}
}

// TestP2_3SeventeenBits: the divisor itself spans 17 bits, and leads from one sealed string to another; so the 16 are no fewer and no more.
func TestP2_3SeventeenBits(t *testing.T) {
	sealed := Seal("123456789")
	other := flip(sealed, 5, 0x8408<<1|1)
	inner, e := Open(other)
	if !Good(other) || e != api.OK || inner == "123456789" || Seal(inner) != other {
		t.Errorf("%q: %q, %v", other, inner, e)
	}
}
