package ipcpopt

import (
	"strconv"
	"strings"
	"testing"

	"halyard/api"
)

// digits are those of b in decimal, without leading zeros.
func digits(b byte) string {
	s := string([]byte{'0' + b%10})
	if b >= 10 {
		s = string([]byte{'0' + b/10%10}) + s
	}
	if b >= 100 {
		s = string([]byte{'0' + b/100}) + s
	}
	return s
}

// toText is the chapter's words on an address's text.
func toText(v uint32) string {
	return digits(byte(v>>24)) + "." + digits(byte(v>>16)) + "." + digits(byte(v>>8)) + "." + digits(byte(v))
}

// reader returns the chapter's words on Read: which text is an address's, as it is told by all bytes' digits.
func reader() func(s string) (uint32, api.Errno) {
	bytes := map[string]uint32{}
	for b := range uint32(256) {
		bytes[digits(byte(b))] = b
	}
	return func(s string) (uint32, api.Errno) {
		words := strings.Split(s, ".")
		if len(words) != 4 {
			return 0, api.ErrForm
		}
		v := uint32(0)
		for _, w := range words {
			b, ok := bytes[w]
			if !ok {
				return 0, api.ErrForm
			}
			v = v<<8 | b
		}
		return v, api.OK
	}
}

// toRead returns a check that holds Read of s against the chapter's words.
func toRead(t *testing.T) func(s string) {
	read := reader()
	return func(s string) {
		t.Helper()
		want, wantErr := read(s)
		if v, e := Read(s); v != want || e != wantErr {
			t.Fatalf("Read(%.80q, %d bytes) = %d, %v, want %d, %v", s, len(s), v, e, want, wantErr)
		}
	}
}

// places calls f with every byte in every place of an address, alone and among others; with two bytes side by side, all that there are.
func places(f func(v uint32)) {
	for b := range uint32(256) {
		for n := range 4 {
			only := b << (8 * n)
			f(only)
			f(only | 0x01010101&^(0xff<<(8*n)))
			f(only | ^uint32(0xff<<(8*n)))
		}
	}
	for two := range uint32(1 << 16) {
		f(two)
		f(two << 8)
		f(two << 16)
		f(two<<16 | two)
	}
	for n := range uint32(1 << 16) {
		f(n * 2654435761) // all over the place
	}
}

// texts are some of addresses, of the shortest and the longest, and of bytes of one, two and three digits.
func texts() []string {
	return []string{"0.0.0.0", "1.2.3.4", "10.0.0.1", "9.99.199.255", "192.168.100.20", "255.255.255.255", "0.10.200.3"}
}

// TestP10_2Text: the chapter's example, 0, the greatest, bytes of one, two and three digits.
func TestP10_2Text(t *testing.T) {
	for _, c := range []struct {
		addr uint32
		want string
	}{
		{0x0a000001, "10.0.0.1"},
		{0, "0.0.0.0"},
		{1, "0.0.0.1"},
		{0xffffffff, "255.255.255.255"},
		{0x01020304, "1.2.3.4"},
		{0x04030201, "4.3.2.1"},
		{0x090a6364, "9.10.99.100"},
		{0xc0a80a14, "192.168.10.20"},
		{0x7f000001, "127.0.0.1"},
		{0x80000000, "128.0.0.0"},
		{0x00ff0000, "0.255.0.0"},
		{0x0000ff00, "0.0.255.0"},
	} {
		if got := Text(c.addr); got != c.want {
			t.Errorf("Text(%#08x) = %q, want %q", c.addr, got, c.want)
		}
	}
	places(func(v uint32) {
		if got := Text(v); got != toText(v) {
			t.Fatalf("Text(%#08x) = %q, want %q", v, got, toText(v))
		}
	})
}

// TestP10_2Read: texts of addresses.
func TestP10_2Read(t *testing.T) {
	for _, c := range []struct {
		s    string
		want uint32
	}{
		{"0.0.0.0", 0},
		{"0.0.0.1", 1},
		{"1.0.0.0", 1 << 24},
		{"10.0.0.1", 0x0a000001},
		{"1.2.3.4", 0x01020304},
		{"9.10.99.100", 0x090a6364},
		{"10.0.0.255", 0x0a0000ff},
		{"255.255.255.255", 0xffffffff},
		{"255.0.0.0", 0xff000000},
		{"0.255.0.0", 0x00ff0000},
		{"0.0.255.0", 0x0000ff00},
		{"192.168.10.20", 0xc0a80a14},
	} {
		if v, e := Read(c.s); v != c.want || e != api.OK {
			t.Errorf("Read(%q) = %#08x, %v, want %#08x", c.s, v, e, c.want)
		}
	}
	places(func(v uint32) {
		if got, e := Read(toText(v)); got != v || e != api.OK {
			t.Fatalf("Read(%q) = %#08x, %v", toText(v), got, e)
		}
	})
}

// TestP10_2ReadForm: texts that are no address's; with nothing beside the error (R2).
func TestP10_2ReadForm(t *testing.T) {
	check := func(s string) {
		t.Helper()
		if v, e := Read(s); v != 0 || e != api.ErrForm {
			t.Errorf("Read(%.80q, %d bytes) = %d, %v", s, len(s), v, e)
		}
	}
	for _, s := range []string{
		"10.0.0.256", "10.0.0.01", // the chapter's examples
		"", ".", "..", "...", "....", "1", "1.2", "1.2.3", "1.2.3.4.5", "1.2.3.4.", "1.2.3.", ".1.2.3.4", ".1.2.3", "1.2.3.4.5.6.7.8",
		".2.3.4", "1..3.4", "1.2..4", "1..2.3.4", "1.2...4", "1.2.3..4", "1.2.3.4..",
		"0x0.0.0.1", "0x1.2.3.4", "1.2.3.0x4", "0b1.2.3.4", "0o1.2.3.4", "1_0.2.3.4", "1e1.2.3.4", "1.2.3.4e0", "1.2.3.a",
		"10,0,0,1", "1,2.3.4", "1:2:3:4", "1.2.3/4", "1.2.3.4/8", "::1", "167772161", "10.1", "10.0.1",
		" 1.2.3.4", "1.2.3.4 ", "1. 2.3.4", "1.2 .3.4", "1.2.3.4\n", "\t1.2.3.4", "1.2.3.4\x00", "\x001.2.3.4", "1.2.3\x00.4",
		"-1.2.3.4", "+1.2.3.4", "1.-2.3.4", "1.2.+3.4", "1.2.3.-4", "-0.0.0.0", "0.0.0.+0", "1.2.3.-", "1.2.3.+", "1.2.3. ",
		"00.0.0.0", "0.00.0.0", "0.0.00.0", "0.0.0.00", "000.000.000.000", "010.0.0.1", "10.0.0.001", "1.2.3.0255",
		"\u0661.2.3.4", "1.2.3.\uff14", "\xff.2.3.4", "1\u00b7.2.3.4", "\ufeff1.2.3.4", // digits to others
	} {
		check(s)
	}
	for _, w := range []string{
		"", "256", "257", "260", "299", "300", "512", "999", "1000", "2550", "65536", "65537", "4294967296", "4294967297",
		"18446744073709551615", "18446744073709551616", "18446744073709551617", "340282366920938463463374607431768211457",
		"00", "01", "09", "010", "001", "000", "0255", "256 ", "-1", "+1", "-0", "1 ", " 1", "1a", "a1", "a", "/", ":", "0/", "1:", "1/0", "0x1", "1_1", "1.",
	} {
		check(w + ".2.3.4")
		check("1." + w + ".3.4")
		check("1.2." + w + ".4")
		check("1.2.3." + w)
		check(w + "." + w + "." + w + "." + w)
	}
}

// TestP10_2ReadLong: very long texts, of digits, of zeros, of dots, of addresses' texts.
func TestP10_2ReadLong(t *testing.T) {
	check := toRead(t)
	for _, n := range []int{3, 4, 19, 20, 255, 256, 257, 1 << 16, 1 << 20} {
		for _, s := range []string{"0", "1", "9", ".", "1.", ".1", "1.2.3.4", "1.2.3.4.", " ", "-", "\x00", "\xff"} {
			long := strings.Repeat(s, n)
			check(long)
			check("1.2.3." + long)
			check(long + ".2.3.4")
			check("1." + long + ".3.4")
			check("1.2.3.4" + long)
			check(long + "1.2.3.4")
			check("1.2.3." + long + "4")
		}
	}
}

// TestP10_2ReadNear: texts of addresses, in which one byte is wanting, is another one, is added, is there twice; their fronts and their ends.
func TestP10_2ReadNear(t *testing.T) {
	check := toRead(t)
	for _, s := range texts() {
		for i := range len(s) + 1 {
			front, end := s[:i], s[i:]
			check(front)
			check(end)
			check(end + front)
			check(end + "." + front)
			for b := range 256 {
				one := string([]byte{byte(b)})
				check(front + one + end)
				if end != "" {
					check(front + one + end[1:])
					check(front + end[1:])
				}
			}
		}
	}
}

// TestP10_2ReadEvery: all texts of up to eight bytes that stand in an address's, or nearly; all of four words that matter.
func TestP10_2ReadEvery(t *testing.T) {
	check := toRead(t)
	var grow func(s string, left int)
	grow = func(s string, left int) {
		check(s)
		for _, b := range []string{"0", "1", "2", "5", "."} {
			if left > 0 {
				grow(s+b, left-1)
			}
		}
	}
	grow("", 8)
	words := []string{"", "0", "1", "9", "10", "99", "100", "249", "255", "256", "1000", "00", "01", "-1", "a"}
	for _, a := range words {
		for _, b := range words {
			for _, c := range words {
				for _, d := range words {
					check(a + "." + b + "." + c + "." + d)
				}
				check(a + "." + b + "." + c)
			}
		}
	}
	for v := range 1100 { // every number in every place, with up to two zeros ahead
		for _, zeros := range []string{"", "0", "00"} {
			w := zeros + strconv.Itoa(v)
			check(w + ".2.3.4")
			check("1." + w + ".3.4")
			check("1.2." + w + ".4")
			check("1.2.3." + w)
		}
	}
}

// TestP10_3Text: every address's text is read as that address.
func TestP10_3Text(t *testing.T) {
	places(func(v uint32) {
		if got, e := Read(Text(v)); got != v || e != api.OK {
			t.Fatalf("Read(Text(%#08x)) = %#08x, %v", v, got, e)
		}
	})
}

// TestP10_3Read: what is read is told as the text that it was.
func TestP10_3Read(t *testing.T) {
	read := 0
	var grow func(s string, left int)
	grow = func(s string, left int) {
		if v, e := Read(s); e == api.OK {
			read++
			if Text(v) != s {
				t.Fatalf("Text(Read(%q)) = %q", s, Text(v))
			}
		}
		for _, b := range []string{"0", "1", "2", "6", "."} {
			if left > 0 {
				grow(s+b, left-1)
			}
		}
	}
	grow("", 9)
	if read < 1000 {
		t.Errorf("only %d texts were read", read)
	}
	for _, s := range texts() {
		if v, e := Read(s); Text(v) != s || e != api.OK {
			t.Errorf("Read(%q) = %#08x, %v, and its text is %q", s, v, e, Text(v))
		}
	}
}
