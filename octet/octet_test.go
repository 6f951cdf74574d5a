package octet

import (
	"math"
	"slices"
	"strings"
	"testing"

	"halyard/api"
)

// TestP1_1Put: the encodings, big-endian.
func TestP1_1Put(t *testing.T) {
	for _, c := range []struct {
		v    uint16
		want string
	}{
		{0, "\x00\x00"}, {1, "\x00\x01"}, {255, "\x00\xff"}, {256, "\x01\x00"},
		{258, "\x01\x02"}, {0x8000, "\x80\x00"}, {0xabcd, "\xab\xcd"}, {math.MaxUint16, "\xff\xff"},
	} {
		if got := Put16(c.v); got != c.want {
			t.Errorf("Put16(%d) = %q, want %q", c.v, got, c.want)
		}
	}
	for _, c := range []struct {
		v    uint32
		want string
	}{
		{0, "\x00\x00\x00\x00"}, {1, "\x00\x00\x00\x01"}, {255, "\x00\x00\x00\xff"}, {256, "\x00\x00\x01\x00"},
		{258, "\x00\x00\x01\x02"}, {1 << 16, "\x00\x01\x00\x00"}, {1 << 24, "\x01\x00\x00\x00"},
		{0x01020304, "\x01\x02\x03\x04"}, {0x80000000, "\x80\x00\x00\x00"}, {0xfedcba98, "\xfe\xdc\xba\x98"},
		{math.MaxUint32, "\xff\xff\xff\xff"},
	} {
		if got := Put32(c.v); got != c.want {
			t.Errorf("Put32(%d) = %q, want %q", c.v, got, c.want)
		}
	}
}

// TestP1_1Get: every length from 0 to 5 and a long one, with a zero beside an error (R2).
func TestP1_1Get(t *testing.T) {
	for _, c := range []struct {
		s   string
		v16 uint16
		e16 api.Errno
		v32 uint32
		e32 api.Errno
	}{
		{"", 0, api.ErrEnd, 0, api.ErrEnd},
		{"\x01", 0, api.ErrEnd, 0, api.ErrEnd},
		{"\x01\x02", 0x0102, api.OK, 0, api.ErrEnd},
		{"\x01\x02\x03", 0, api.ErrForm, 0, api.ErrEnd},
		{"\x01\x02\x03\x04", 0, api.ErrForm, 0x01020304, api.OK},
		{"\x01\x02\x03\x04\x05", 0, api.ErrForm, 0, api.ErrForm},
		{"\xff\xfe", 0xfffe, api.OK, 0, api.ErrEnd},
		{"\xff\xfe\xfd\xfc", 0, api.ErrForm, 0xfffefdfc, api.OK},
		{strings.Repeat("\xff", 1000), 0, api.ErrForm, 0, api.ErrForm},
	} {
		if v, e := Get16(c.s); v != c.v16 || e != c.e16 {
			t.Errorf("Get16(%q) = %d, %v, want %d, %v", c.s, v, e, c.v16, c.e16)
		}
		if v, e := Get32(c.s); v != c.v32 || e != c.e32 {
			t.Errorf("Get32(%q) = %d, %v, want %d, %v", c.s, v, e, c.v32, c.e32)
		}
	}
}

// TestP1_2Cut: n negative, 0, within, the length, and beyond it.
func TestP1_2Cut(t *testing.T) {
	for _, c := range []struct {
		s           string
		n           int
		front, rest string
		e           api.Errno
	}{
		{"abc", math.MinInt, "", "", api.ErrArg},
		{"abc", -1, "", "", api.ErrArg},
		{"", -1, "", "", api.ErrArg},
		{"", 0, "", "", api.OK},
		{"", 1, "", "", api.ErrEnd},
		{"abc", 0, "", "abc", api.OK},
		{"abc", 1, "a", "bc", api.OK},
		{"abc", 2, "ab", "c", api.OK},
		{"abc", 3, "abc", "", api.OK},
		{"abc", 4, "", "", api.ErrEnd},
		{"abc", math.MaxInt, "", "", api.ErrEnd},
		{"\xc3\xa9\x00", 1, "\xc3", "\xa9\x00", api.OK}, // bytes, not runes
	} {
		front, rest, e := Cut(c.s, c.n)
		if front != c.front || rest != c.rest || e != c.e {
			t.Errorf("Cut(%q, %d) = %q, %q, %v, want %q, %q, %v", c.s, c.n, front, rest, e, c.front, c.rest, c.e)
		}
	}
}

// TestP1_3Text8: up to 255 bytes, and not 256.
func TestP1_3Text8(t *testing.T) {
	x255, x256 := strings.Repeat("x", 255), strings.Repeat("x", 256)
	for _, c := range []struct {
		s, want string
		e       api.Errno
	}{
		{"", "\x00", api.OK},
		{"ab", "\x02ab", api.OK},
		{"\x00", "\x01\x00", api.OK},
		{"\xc3\xa9", "\x02\xc3\xa9", api.OK},
		{x255[1:], "\xfe" + x255[1:], api.OK},
		{x255, "\xff" + x255, api.OK},
		{x256, "", api.ErrLong},
		{x256 + x256, "", api.ErrLong},
	} {
		if got, e := Text8(c.s); got != c.want || e != c.e {
			t.Errorf("Text8 of %d bytes = %q, %v, want %q, %v", len(c.s), got, e, c.want, c.e)
		}
	}
}

// TestP1_3Read8: a whole string, with and without a rest, and one that wants bytes.
func TestP1_3Read8(t *testing.T) {
	x255 := strings.Repeat("x", 255)
	for _, c := range []struct {
		s, text, rest string
		e             api.Errno
	}{
		{"", "", "", api.ErrEnd},
		{"\x00", "", "", api.OK},
		{"\x00x", "", "x", api.OK},
		{"\x01", "", "", api.ErrEnd},
		{"\x01ab", "a", "b", api.OK},
		{"\x02ab", "ab", "", api.OK},
		{"\x02a", "", "", api.ErrEnd},
		{"\x01a\x05b", "a", "\x05b", api.OK}, // what the rest says is not looked at
		{"\xff" + x255[1:], "", "", api.ErrEnd},
		{"\xff" + x255, x255, "", api.OK},
		{"\xff" + x255 + "y", x255, "y", api.OK},
	} {
		text, rest, e := Read8(c.s)
		if text != c.text || rest != c.rest || e != c.e {
			t.Errorf("Read8(%q) = %q, %q, %v, want %q, %q, %v", c.s, text, rest, e, c.text, c.rest, c.e)
		}
	}
}

// TestP1_3Join8: none, some, and one that is too long wherever it stands.
func TestP1_3Join8(t *testing.T) {
	x255, x256 := strings.Repeat("x", 255), strings.Repeat("x", 256)
	for _, c := range []struct {
		l    []string
		want string
		e    api.Errno
	}{
		{nil, "", api.OK},
		{[]string{}, "", api.OK},
		{[]string{""}, "\x00", api.OK},
		{[]string{"", ""}, "\x00\x00", api.OK},
		{[]string{"ab", "", "c"}, "\x02ab\x00\x01c", api.OK},
		{[]string{"a", x255}, "\x01a\xff" + x255, api.OK},
		{[]string{x256}, "", api.ErrLong},
		{[]string{x256, "a"}, "", api.ErrLong},
		{[]string{"a", x256, "b"}, "", api.ErrLong},
		{[]string{"a", "b", x256}, "", api.ErrLong},
	} {
		before := slices.Clone(c.l)
		if got, e := Join8(c.l...); got != c.want || e != c.e {
			t.Errorf("Join8(%q) = %q, %v, want %q, %v", c.l, got, e, c.want, c.e)
		}
		if !slices.Equal(c.l, before) {
			t.Errorf("Join8 changed %q into %q", before, c.l)
		}
	}
}

// TestP1_3Split8: whole rows, and rows that end within their last string.
func TestP1_3Split8(t *testing.T) {
	x255 := strings.Repeat("x", 255)
	for _, c := range []struct {
		s    string
		want []string
		e    api.Errno
	}{
		{"", nil, api.OK},
		{"\x00", []string{""}, api.OK},
		{"\x00\x00\x00", []string{"", "", ""}, api.OK},
		{"\x01a\x00", []string{"a", ""}, api.OK},
		{"\x00\x02ab\x01c", []string{"", "ab", "c"}, api.OK},
		{"\xff" + x255 + "\x01y", []string{x255, "y"}, api.OK},
		{"\x01", nil, api.ErrEnd},
		{"\x02a", nil, api.ErrEnd},
		{"\x01a\x01", nil, api.ErrEnd},
		{"\x01a\x00\x03bc", nil, api.ErrEnd},
		{"\x01a\xff" + x255[1:], nil, api.ErrEnd},
	} {
		if got, e := Split8(c.s); !slices.Equal(got, c.want) || e != c.e {
			t.Errorf("Split8(%q) = %q, %v, want %q, %v", c.s, got, e, c.want, c.e)
		}
	}
}

// TestP1_3NewMemory: what is done to an answer is not seen in the next one (R5).
func TestP1_3NewMemory(t *testing.T) {
	first, _ := Split8("\x01a\x01b")
	if len(first) != 2 {
		t.Fatalf("%q", first)
	}
	first[0], first[1] = "x", "y"
	if again, e := Split8("\x01a\x01b"); !slices.Equal(again, []string{"a", "b"}) || e != api.OK {
		t.Errorf("%q %v", again, e)
	}
}

// TestP1_4Numbers16: Get16 and Put16 invert each other, over all numbers, and so over all pairs of bytes.
func TestP1_4Numbers16(t *testing.T) {
	for i := range 1 << 16 {
		v := uint16(i)
		s := string([]byte{byte(i / 256), byte(i % 256)})
		if got, e := Get16(Put16(v)); got != v || e != api.OK {
			t.Fatalf("Get16(Put16(%d)) = %d, %v", v, got, e)
		}
		got, e := Get16(s)
		if back := Put16(got); back != s || e != api.OK {
			t.Fatalf("Put16(Get16(%q)) = %q, %v", s, back, e)
		}
	}
}

// TestP1_4Numbers32: Get32 and Put32 invert each other, over numbers with every bit, and over bytes at every place.
func TestP1_4Numbers32(t *testing.T) {
	check := func(v uint32) {
		if got, e := Get32(Put32(v)); got != v || e != api.OK {
			t.Fatalf("Get32(Put32(%d)) = %d, %v", v, got, e)
		}
	}
	for i := range 32 {
		check(1 << i)
		check(1<<i - 1)
		check(^uint32(0) << i)
	}
	for i := range 1 << 16 {
		check(uint32(i) * 65537)
		check(uint32(i) * 2654435761)
	}
	for place := range 4 {
		for b := range 256 {
			bytes := [4]byte{0x12, 0x34, 0x56, 0x78}
			bytes[place] = byte(b)
			s := string(bytes[:])
			v, e := Get32(s)
			if back := Put32(v); back != s || e != api.OK {
				t.Fatalf("Put32(Get32(%q)) = %q, %v", s, back, e)
			}
		}
	}
}

// TestP1_4Texts: Split8 inverts Join8, and Read8 inverts Text8, for every length.
func TestP1_4Texts(t *testing.T) {
	all := []string{}
	for n := range api.MaxText8 + 1 {
		text := strings.Repeat(string([]byte{byte(n)}), n)
		all = append(all, text)
		s, e := Text8(text)
		if e != api.OK {
			t.Fatalf("Text8 of %d bytes: %v", n, e)
		}
		if got, rest, e := Read8(s + "rest"); got != text || rest != "rest" || e != api.OK {
			t.Fatalf("Read8 of %d bytes: %q, %q, %v", n, got, rest, e)
		}
		row, e := Join8(all...)
		if e != api.OK {
			t.Fatalf("Join8 of %d texts: %v", len(all), e)
		}
		if got, e := Split8(row); !slices.Equal(got, all) || e != api.OK {
			t.Fatalf("Split8 of %d texts: %v", len(all), e)
		}
	}
}

// TestP1_4EveryCutRow: of a row's prefixes, those that end behind a string split, and all others want bytes.
func TestP1_4EveryCutRow(t *testing.T) {
	row := "\x00\x02ab\x01c\x03def"
	whole := map[int]int{0: 0, 1: 1, 4: 2, 6: 3, 10: 4}
	for n := range len(row) + 1 {
		l, e := Split8(row[:n])
		want, ok := whole[n]
		if ok && (len(l) != want || e != api.OK) {
			t.Errorf("Split8 of %d bytes = %q, %v", n, l, e)
		}
		if !ok && (len(l) != 0 || e != api.ErrEnd) {
			t.Errorf("Split8 of %d bytes = %q, %v, want ErrEnd", n, l, e)
		}
		if !ok {
			continue
		}
		if back, e := Join8(l...); back != row[:n] || e != api.OK {
			t.Errorf("Join8(%q) = %q, %v", l, back, e)
		}
	}
}
