package md5

import (
	std "crypto/md5"
	"encoding/hex"
	"slices"
	"strings"
	"testing"

	"halyard/api"
)

// digest is RFC 1321's digest of s, by Go's library.
func digest(s string) string {
	sum := std.Sum([]byte(s))
	return string(sum[:])
}

// edges are the lengths about which the end of a string goes into a block of its own, or just fits.
func edges() []int {
	return []int{0, 1, 55, 56, 57, 63, 64, 65, 119, 120, 127, 128, 129}
}

// counting returns n bytes, no two neighbours alike, and no two blocks.
func counting(n int) string {
	b := make([]byte, n)
	for i := range b {
		b[i] = byte(i*7 + i/64 + 3)
	}
	return string(b)
}

// everyByte has each byte once, in order.
func everyByte() string {
	var b [256]byte
	for i := range b {
		b[i] = byte(i)
	}
	return string(b[:])
}

// pieces cuts s into pieces of n bytes; the last one may be shorter.
func pieces(s string, n int) []string {
	var l []string
	for len(s) > n {
		l = append(l, s[:n])
		s = s[n:]
	}
	return append(l, s)
}

// holds fails the test unless s is what was written to h.
func holds(t *testing.T, h *Hash, s string) {
	t.Helper()
	if got, want := h.Sum(), digest(s); got != want {
		t.Fatalf("the digest of %d bytes is %x, want %x", len(s), got, want)
	}
	if got := h.Len(); got != len(s) {
		t.Fatalf("Len is %d behind %d bytes", got, len(s))
	}
}

// write fails the test unless s is written.
func write(t *testing.T, h *Hash, s string) {
	t.Helper()
	if e := h.Write(s); e != api.OK {
		t.Fatalf("Write of %d bytes: %v", len(s), e)
	}
}

// TestP5_1Known: the chapter's examples, RFC 1321's own, and others that are well known.
func TestP5_1Known(t *testing.T) {
	for _, c := range []struct{ s, want string }{
		{"", "d41d8cd98f00b204e9800998ecf8427e"},
		{"abc", "900150983cd24fb0d6963f7d28e17f72"},
		{"message digest", "f96b697d7cb7938d525a2f31aaf161d0"},
		{"a", "0cc175b9c0f1b6a831c399e269772661"},
		{"abcdefghijklmnopqrstuvwxyz", "c3fcd3d76192e4007dfb496cca67e13b"},
		{"ABCDEFGHIJKLMNOPQRSTUVWXYZabcdefghijklmnopqrstuvwxyz0123456789", "d174ab98d277d9f5a5611c2c9f419d9f"},
		{strings.Repeat("1234567890", 8), "57edf4a22be3c955ac49da2e2107b67a"},
		{"The quick brown fox jumps over the lazy dog", "9e107d9d372bb6826bd81d3542a419d6"},
		{"The quick brown fox jumps over the lazy dog.", "e4d909c290d0fb1ca068ffaddf22cbd0"},
		{"\x00", "93b885adfe0da089cdf634904fd59f71"},
		{strings.Repeat("a", 1000000), "7707d6ae4e027c70eea2a935c2296f21"},
	} {
		got := Sum(c.s)
		if Hex(got) != c.want || hex.EncodeToString([]byte(got)) != c.want {
			t.Errorf("%.20q: %x, want %s", c.s, got, c.want)
		}
		if len(got) != 16 || digest(c.s) != got {
			t.Errorf("%.20q: %x", c.s, got)
		}
	}
}

// TestP5_1EveryLength: all lengths up to five blocks, of several fillings, the same when asked again (R6).
func TestP5_1EveryLength(t *testing.T) {
	long := counting(320)
	for range 2 {
		for n := range 321 {
			for _, s := range []string{
				long[:n], strings.Repeat("\x00", n), strings.Repeat("\xff", n), strings.Repeat("\x80", n), strings.Repeat("x", n),
			} {
				if got, want := Sum(s), digest(s); got != want {
					t.Fatalf("%d bytes, %.8q: %x, want %x", n, s, got, want)
				}
			}
		}
	}
	for _, n := range edges() {
		h := New()
		write(t, h, long[:n])
		holds(t, h, long[:n])
	}
}

// TestP5_1EveryByte: each byte alone, at both ends of a block and of what is left behind one, and all of them in a row.
func TestP5_1EveryByte(t *testing.T) {
	all := everyByte()
	for i := range 256 {
		b := all[i : i+1]
		for _, s := range []string{
			b, b + counting(63), counting(63) + b, counting(64) + b, counting(54) + b, counting(55) + b, counting(118) + b,
			strings.Repeat(b, 64), strings.Repeat(b, 129), all[i:] + all[:i],
		} {
			if got, want := Sum(s), digest(s); got != want {
				t.Fatalf("%02x in %d bytes: %x, want %x", i, len(s), got, want)
			}
		}
	}
	if Sum(all) != digest(all) {
		t.Error("all bytes in a row")
	}
	if Sum("\xc3\xa9") == Sum("\xe9") || Sum("\xff\xfe") != digest("\xff\xfe") {
		t.Error("runes, not bytes")
	}
}

// TestP5_1EveryBit: each bit of two blocks alone, so that each number of a block is told from all others in each round.
func TestP5_1EveryBit(t *testing.T) {
	for bit := range 8 * 128 {
		b := make([]byte, 128)
		b[bit/8] = 1 << (bit % 8)
		got := Sum(string(b))
		if want := digest(string(b)); got != want {
			t.Fatalf("bit %d: %x, want %x", bit, got, want)
		}
	}
}

// TestP5_1Parts: no part, empty ones, one and many; where they are cut does not tell; they stay as they are (R5).
func TestP5_1Parts(t *testing.T) {
	for _, parts := range [][]string{
		nil, {}, {""}, {"", "", ""},
		{"abc"}, {"a", "bc"}, {"ab", "c"}, {"a", "b", "c"}, {"", "a", "", "", "bc", ""},
		{counting(64), ""}, {"", counting(64)}, {counting(55), counting(9)}, {counting(64), counting(64), "x"},
		pieces(counting(1000), 1), pieces(counting(1000), 63), pieces(counting(1000), 64), pieces(counting(1000), 65),
		{strings.Repeat("x", 100000), "y", strings.Repeat("z", 100001)},
	} {
		before := slices.Clone(parts)
		if got, want := Sum(parts...), digest(strings.Join(parts, "")); got != want {
			t.Errorf("%d parts, %.20q: %x, want %x", len(parts), parts, got, want)
		}
		if !slices.Equal(parts, before) {
			t.Errorf("Sum changed %.20q into %.20q", before, parts)
		}
	}
	if Sum("ab", "c") == Sum("c", "ab") || Sum("a") == Sum("a", "\x00") || Sum("a", "a") == Sum("a") {
		t.Error("parts are lost, or their order")
	}
}

// TestP5_1Bits: the number of bits has eight bytes: it goes on where it leaves its fourth.
func TestP5_1Bits(t *testing.T) {
	h, want := New(), std.New()
	piece := counting(1 << 20)
	for range 1 << 9 {
		h.Write(piece)
		want.Write([]byte(piece))
	}
	for _, more := range []string{"", "x", counting(64)} {
		h.Write(more)
		want.Write([]byte(more))
		if got := h.Sum(); got != string(want.Sum(nil)) {
			t.Errorf("%d bytes: %x, want %x", h.Len(), got, want.Sum(nil))
		}
	}
	if got := h.Len(); got != 1<<29+65 {
		t.Errorf("Len is %d", got)
	}
}

// TestP5_1Hex: no byte, each one, and many; two digits each, the upper four bits first, letters small.
func TestP5_1Hex(t *testing.T) {
	for _, c := range []struct{ s, want string }{
		{"", ""}, {"\x00", "00"}, {"\x09", "09"}, {"\x0a", "0a"}, {"\x0f", "0f"}, {"\x10", "10"}, {"\x9f", "9f"},
		{"\xa0", "a0"}, {"\xf0", "f0"}, {"\xff", "ff"}, {"\x00\x00", "0000"}, {"A\x00z", "41007a"},
		{"\x01\x23\x45\x67\x89\xab\xcd\xef", "0123456789abcdef"},
		{"\xc3\xa9", "c3a9"},
	} {
		if got := Hex(c.s); got != c.want {
			t.Errorf("Hex(%q) = %q, want %q", c.s, got, c.want)
		}
	}
	all := everyByte()
	for i := range 256 {
		if got, want := Hex(all[i:i+1]), hex.EncodeToString([]byte{byte(i)}); got != want {
			t.Errorf("Hex of %02x = %q", i, got)
		}
	}
	for _, s := range []string{all, counting(1000), strings.Repeat("\xff", 65)} {
		if got, want := Hex(s), hex.EncodeToString([]byte(s)); got != want || len(got) != 2*len(s) {
			t.Errorf("Hex of %d bytes = %.20q, want %.20q", len(s), got, want)
		}
	}
}

// TestP5_2New: nothing is written to a new hash, whatever was written to others.
func TestP5_2New(t *testing.T) {
	first := New()
	holds(t, first, "")
	write(t, first, counting(100))
	second := New()
	holds(t, second, "")
	write(t, second, "abc")
	holds(t, first, counting(100))
	holds(t, second, "abc")
	holds(t, New(), "")
}

// TestP5_2Write: two pieces and three, cut at each place of two blocks; sums and lengths behind each write.
func TestP5_2Write(t *testing.T) {
	s := counting(130)
	for a := range len(s) + 1 {
		h := New()
		write(t, h, s[:a])
		holds(t, h, s[:a])
		for b := a; b <= len(s); b++ {
			more := New()
			write(t, more, s[:a])
			write(t, more, s[a:b])
			holds(t, more, s[:b])
			write(t, more, s[b:])
			holds(t, more, s)
		}
	}
}

// TestP5_2LongWrite: many blocks at once, behind each number of bytes that are left of one.
func TestP5_2LongWrite(t *testing.T) {
	s := counting(100 * 64)
	for ahead := range 65 {
		for _, n := range edges() {
			h := New()
			write(t, h, s[:ahead])
			write(t, h, s[ahead:len(s)-n])
			holds(t, h, s[:len(s)-n])
			write(t, h, s[len(s)-n:])
			holds(t, h, s)
		}
	}
}

// TestP5_2Sum: asked twice in a row, and between two writes, at each length, it answers and changes nothing.
func TestP5_2Sum(t *testing.T) {
	s := counting(260)
	h := New()
	for n := range len(s) {
		first, second := h.Sum(), h.Sum()
		if first != second || first != digest(s[:n]) || len(first) != 16 {
			t.Fatalf("%d bytes: %x, then %x", n, first, second)
		}
		write(t, h, s[n:n+1])
	}
	holds(t, h, s)
}

// TestP5_2Len: behind each write, an empty one among them, and whatever was asked.
func TestP5_2Len(t *testing.T) {
	h := New()
	want := 0
	for _, n := range append(edges(), 0, 0, 1000, 4096, 0, 1) {
		write(t, h, counting(n))
		want += n
		for range 2 {
			if got := h.Len(); got != want {
				t.Fatalf("Len is %d, want %d", got, want)
			}
			h.Sum()
			h.Copy().Write("x")
		}
	}
}

// TestP5_2Copy: at each length, a copy equals the first one, and both go on alone, whichever is first.
func TestP5_2Copy(t *testing.T) {
	s := counting(130)
	for n := range len(s) + 1 {
		for _, more := range []string{"", "x", counting(63), counting(64), counting(200)} {
			h := New()
			write(t, h, s[:n])
			c := h.Copy()
			if c == h {
				t.Fatal("a copy is the hash itself")
			}
			holds(t, c, s[:n])
			write(t, c, more+"copy")
			holds(t, h, s[:n])
			write(t, h, more+"self, and more")
			holds(t, c, s[:n]+more+"copy")
			holds(t, h, s[:n]+more+"self, and more")
			write(t, h, "!")
			again := c.Copy()
			write(t, again, counting(64))
			holds(t, again, s[:n]+more+"copy"+counting(64))
			holds(t, c, s[:n]+more+"copy")
			holds(t, h, s[:n]+more+"self, and more!")
		}
	}
}

// TestP5_2CopySum: of a copy, and of the first one behind it, with writes between.
func TestP5_2CopySum(t *testing.T) {
	h := New()
	s := ""
	for n := range 200 {
		c := h.Copy()
		holds(t, c, s)
		holds(t, c, s)
		holds(t, h, s)
		more := counting(n % 67)
		write(t, h, more)
		holds(t, c, s)
		s += more
		holds(t, h, s)
	}
}

// TestP5_2Nil: an error, and zero values, also when asked again.
func TestP5_2Nil(t *testing.T) {
	var h *Hash
	for range 2 {
		for _, s := range []string{"", "abc", counting(200)} {
			if e := h.Write(s); e != api.ErrNil {
				t.Errorf("Write(%.8q) = %v", s, e)
			}
		}
		if got := h.Sum(); got != "" {
			t.Errorf("Sum() = %q", got)
		}
		if got := h.Len(); got != 0 {
			t.Errorf("Len() = %d", got)
		}
		if got := h.Copy(); got != nil {
			t.Errorf("Copy() = %v", got)
		}
	}
}

// TestP5_3Pieces: in one piece, byte by byte, and in pieces of every size up to two blocks, as writes and as parts.
func TestP5_3Pieces(t *testing.T) {
	for _, n := range append(edges(), 1000) {
		s := counting(n)
		want := digest(s)
		for size := 1; size <= 130; size++ {
			h := New()
			for _, piece := range pieces(s, size) {
				write(t, h, piece)
			}
			holds(t, h, s)
			if got := Sum(pieces(s, size)...); got != want {
				t.Fatalf("%d bytes in parts of %d: %x, want %x", n, size, got, want)
			}
		}
		h := New()
		write(t, h, s)
		if h.Sum() != want || Sum(s) != want {
			t.Fatalf("%d bytes in one piece", n)
		}
	}
}

// TestP5_3Between: calls in between, on the hash, its copies and others, change nothing.
func TestP5_3Between(t *testing.T) {
	s := counting(300)
	for size := 1; size <= 66; size++ {
		quiet, asked, other := New(), New(), New()
		for _, piece := range pieces(s, size) {
			write(t, quiet, piece)
			write(t, asked, "")
			asked.Sum()
			asked.Len()
			c := asked.Copy()
			c.Write(counting(size))
			c.Sum()
			write(t, other, "other"+piece)
			Sum("another", piece)
			Hex(asked.Sum())
			write(t, asked, piece)
			asked.Sum()
			write(t, asked, "")
		}
		holds(t, quiet, s)
		holds(t, asked, s)
	}
}

// TestP5_3EveryCut: of short strings, every way of cutting them.
func TestP5_3EveryCut(t *testing.T) {
	s := "123456789"
	want := digest(s)
	for cuts := range 1 << (len(s) - 1) {
		parts := []string{""}
		h := New()
		for i := range len(s) {
			parts[len(parts)-1] += s[i : i+1]
			if cuts>>i&1 == 1 || i == len(s)-1 {
				write(t, h, parts[len(parts)-1])
				parts = append(parts, "")
			}
		}
		if got := Sum(parts...); got != want {
			t.Fatalf("%q: %x, want %x", parts, got, want)
		}
		holds(t, h, s)
	}
}
