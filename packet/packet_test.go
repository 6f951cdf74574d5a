package packet

import (
	"math"
	"strings"
	"testing"

	"halyard/api"
)

// text is these bytes as a string.
func text(l ...byte) string { return string(l) }

// encoding is the chapter's definition: code, identifier, the length with these four bytes, data.
func encoding(p api.Packet) string {
	n := 4 + len(p.Data)
	return text(p.Code, p.Id, byte(n/256), byte(n%256)) + p.Data
}

// toGet is the chapter's words on Get, one after the other.
func toGet(s string) (p api.Packet, padding int, e api.Errno) {
	if len(s) < 4 {
		return api.Packet{}, 0, api.ErrEnd
	}
	n := 256*int(s[2]) + int(s[3])
	if n < 4 {
		return api.Packet{}, 0, api.ErrForm
	}
	if n > len(s) {
		return api.Packet{}, 0, api.ErrEnd
	}
	if n > 1500 {
		return api.Packet{}, 0, api.ErrLong
	}
	return api.Packet{Code: s[0], Id: s[1], Data: s[4:n]}, len(s) - n, api.OK
}

// checkGot holds Get of s against the chapter's words.
func checkGot(t *testing.T, s string) {
	t.Helper()
	wantP, wantPadding, wantErr := toGet(s)
	p, padding, e := Get(s)
	if p != wantP || padding != wantPadding || e != wantErr {
		t.Fatalf("Get(%d bytes, %.20q) = %.40q, %d, %v, want %.40q, %d, %v", len(s), s, p, padding, e, wantP, wantPadding, wantErr)
	}
}

// datas are empty, short and long ones, those whose bytes look like packets, and all bytes.
func datas() []string {
	l := []string{
		"", "x", "ab", "\x00", "\xff", "\x00\x00\x00\x00", "\x01\x01\x00\x04", "\x09\x01\x00\x06ab", "\xc3\xa9\xe2\x82\xac", "\xfe\x80\xff",
		strings.Repeat("a", 250), strings.Repeat("a", 251), strings.Repeat("a", 252), strings.Repeat("a", 253), // a length of one byte and of two
		strings.Repeat("\x00\x04", 300), strings.Repeat("z", 1495), strings.Repeat("z", 1496), strings.Repeat("\xff", 1496),
	}
	var every [256]byte
	for i := range every {
		every[i] = byte(i)
	}
	return append(l, string(every[:]))
}

// paddings are no byte, one and many, and those whose bytes look like packets.
func paddings() []string {
	return []string{
		"", "\x00", "x", "\xff", "\x01\x01\x00\x04", "\x00\x00\x00\x00", "\x09\x01\x00\x06ab",
		strings.Repeat("\x00", 1496), strings.Repeat("p", 1500), strings.Repeat("\xff", 70000),
	}
}

// TestP7_1PutKnown: the chapter's example, and others whose bytes are written out.
func TestP7_1PutKnown(t *testing.T) {
	for _, c := range []struct {
		p    api.Packet
		want string
	}{
		{api.Packet{Code: 9, Id: 1, Data: "ab"}, text(9, 1, 0, 6, 97, 98)},
		{api.Packet{Code: 9, Id: 1}, text(9, 1, 0, 4)},
		{api.Packet{}, text(0, 0, 0, 4)},
		{api.Packet{Code: 255, Id: 254, Data: "\x00"}, text(255, 254, 0, 5, 0)}, // a code need not be known
		{api.Packet{Code: 1, Id: 2, Data: "\xc3\xa9"}, text(1, 2, 0, 6, 0xc3, 0xa9)},
		{api.Packet{Code: 1, Id: 2, Data: strings.Repeat("x", 251)}, text(1, 2, 0, 255) + strings.Repeat("x", 251)},
		{api.Packet{Code: 1, Id: 2, Data: strings.Repeat("x", 252)}, text(1, 2, 1, 0) + strings.Repeat("x", 252)},
		{api.Packet{Code: 1, Id: 2, Data: strings.Repeat("x", 1495)}, text(1, 2, 5, 219) + strings.Repeat("x", 1495)},
		{api.Packet{Code: 1, Id: 2, Data: strings.Repeat("x", 1496)}, text(1, 2, 5, 220) + strings.Repeat("x", 1496)},
	} {
		if got, e := Put(c.p); got != c.want || e != api.OK {
			t.Errorf("Put(%.40q) = %.40q, %v, want %.40q", c.p, got, e, c.want)
		}
	}
}

// TestP7_1PutLong: one byte too many, and many, with nothing beside the error (R2).
func TestP7_1PutLong(t *testing.T) {
	for _, n := range []int{1497, 1498, 1500, 1501, 65531, 65532, 65536, 65540, 200000} {
		for _, p := range []api.Packet{{Code: 9, Id: 1, Data: strings.Repeat("x", n)}, {Data: strings.Repeat("\x00", n)}} {
			if got, e := Put(p); got != "" || e != api.ErrLong {
				t.Errorf("Put with %d bytes = %.40q, %v", n, got, e)
			}
		}
	}
}

// TestP7_1PutEvery: each code, each identifier and each length, against the definition.
func TestP7_1PutEvery(t *testing.T) {
	check := func(p api.Packet) {
		if got, e := Put(p); got != encoding(p) || e != api.OK {
			t.Fatalf("Put(%.40q) = %.40q, %v", p, got, e)
		}
	}
	for code := range 256 {
		for id := range 256 {
			check(api.Packet{Code: uint8(code), Id: uint8(id), Data: "ab"})
		}
	}
	for n := range 1497 {
		check(api.Packet{Code: 1, Id: 7, Data: strings.Repeat("x", n)})
	}
	for range 2 { // the same when asked again (R6)
		for _, data := range datas() {
			check(api.Packet{Code: 200, Id: 255, Data: data})
		}
	}
}

// TestP7_1Get: what is whole, with and without padding, and what is not; nothing beside an error (R2).
func TestP7_1Get(t *testing.T) {
	x := strings.Repeat("x", 66000)
	for _, c := range []struct {
		s       string
		p       api.Packet
		padding int
		e       api.Errno
	}{
		// No padding, one byte of it, many.
		{text(9, 1, 0, 4), api.Packet{Code: 9, Id: 1}, 0, api.OK},
		{text(9, 1, 0, 4, 0), api.Packet{Code: 9, Id: 1}, 1, api.OK},
		{text(9, 1, 0, 4) + x, api.Packet{Code: 9, Id: 1}, 66000, api.OK},
		{text(9, 1, 0, 6, 97, 98), api.Packet{Code: 9, Id: 1, Data: "ab"}, 0, api.OK},
		{text(9, 1, 0, 5, 97, 98), api.Packet{Code: 9, Id: 1, Data: "a"}, 1, api.OK},
		{text(9, 1, 0, 6, 97, 98, 9, 1, 0, 3), api.Packet{Code: 9, Id: 1, Data: "ab"}, 4, api.OK}, // padding is not looked at
		{text(0, 0, 0, 4), api.Packet{}, 0, api.OK},
		{text(255, 254, 0, 5, 0), api.Packet{Code: 255, Id: 254, Data: "\x00"}, 0, api.OK},
		{text(1, 2, 0, 6, 0xc3, 0xa9, 0xc3), api.Packet{Code: 1, Id: 2, Data: "\xc3\xa9"}, 1, api.OK},
		{text(1, 2, 0, 255) + x[:251], api.Packet{Code: 1, Id: 2, Data: x[:251]}, 0, api.OK},
		{text(1, 2, 1, 0) + x[:252], api.Packet{Code: 1, Id: 2, Data: x[:252]}, 0, api.OK},
		{text(1, 2, 1, 4) + x[:260], api.Packet{Code: 1, Id: 2, Data: x[:256]}, 4, api.OK},
		// A length of MaxInfo itself, and one less.
		{text(1, 2, 5, 219) + x[:1495], api.Packet{Code: 1, Id: 2, Data: x[:1495]}, 0, api.OK},
		{text(1, 2, 5, 220) + x[:1496], api.Packet{Code: 1, Id: 2, Data: x[:1496]}, 0, api.OK},
		{text(1, 2, 5, 220) + x[:1497], api.Packet{Code: 1, Id: 2, Data: x[:1496]}, 1, api.OK},
		{text(1, 2, 5, 220) + x, api.Packet{Code: 1, Id: 2, Data: x[:1496]}, 66000 - 1496, api.OK},
		// The head is not whole, whatever there is of the length.
		{"", api.Packet{}, 0, api.ErrEnd},
		{text(9), api.Packet{}, 0, api.ErrEnd},
		{text(9, 1), api.Packet{}, 0, api.ErrEnd},
		{text(9, 1, 0), api.Packet{}, 0, api.ErrEnd},
		{text(9, 1, 4), api.Packet{}, 0, api.ErrEnd},
		{text(9, 1, 255), api.Packet{}, 0, api.ErrEnd},
		// A length that is less than the head's.
		{text(9, 1, 0, 0), api.Packet{}, 0, api.ErrForm},
		{text(9, 1, 0, 1), api.Packet{}, 0, api.ErrForm},
		{text(9, 1, 0, 2), api.Packet{}, 0, api.ErrForm},
		{text(9, 1, 0, 3), api.Packet{}, 0, api.ErrForm},
		{text(9, 1, 0, 3, 0), api.Packet{}, 0, api.ErrForm},
		{text(9, 1, 0, 0) + x, api.Packet{}, 0, api.ErrForm},
		{text(9, 1, 0, 3) + x, api.Packet{}, 0, api.ErrForm},
		// More than there is: one byte, many, and so many that it would be too long as well.
		{text(9, 1, 0, 5), api.Packet{}, 0, api.ErrEnd},
		{text(9, 1, 0, 7, 97, 98), api.Packet{}, 0, api.ErrEnd},
		{text(9, 1, 5, 220), api.Packet{}, 0, api.ErrEnd},
		{text(9, 1, 5, 220) + x[:1495], api.Packet{}, 0, api.ErrEnd},
		{text(9, 1, 5, 221), api.Packet{}, 0, api.ErrEnd},
		{text(9, 1, 5, 221) + x[:1496], api.Packet{}, 0, api.ErrEnd},
		{text(9, 1, 255, 255), api.Packet{}, 0, api.ErrEnd},
		{text(9, 1, 255, 255) + x[:65530], api.Packet{}, 0, api.ErrEnd},
		// Longer than may be, and all of it is there.
		{text(9, 1, 5, 221) + x[:1497], api.Packet{}, 0, api.ErrLong},
		{text(9, 1, 5, 221) + x[:1498], api.Packet{}, 0, api.ErrLong},
		{text(9, 1, 6, 0) + x, api.Packet{}, 0, api.ErrLong},
		{text(9, 1, 255, 255) + x[:65531], api.Packet{}, 0, api.ErrLong},
		{text(9, 1, 255, 255) + x, api.Packet{}, 0, api.ErrLong},
	} {
		p, padding, e := Get(c.s)
		if p != c.p || padding != c.padding || e != c.e {
			t.Errorf("Get(%d bytes, %.20q) = %.40q, %d, %v, want %.40q, %d, %v", len(c.s), c.s, p, padding, e, c.p, c.padding, c.e)
		}
	}
}

// TestP7_1GetEveryLength: each length with some bytes there; and as many as it says, one less, one more and many, where it may be that long.
func TestP7_1GetEveryLength(t *testing.T) {
	x := strings.Repeat("x", 1<<16+10)
	for n := range 1 << 16 {
		head := text(9, 1, byte(n/256), byte(n%256))
		for _, there := range []int{4, 5, 1499, 1500, 1501} {
			checkGot(t, head+x[:there-4])
		}
		if n > 2000 && n%199 != 0 { // greater ones now and then: these strings are long
			continue
		}
		for _, there := range []int{n - 1, n, n + 1, len(x)} {
			checkGot(t, head+x[:max(there-4, 0)])
		}
	}
}

// TestP7_1GetEveryHead: each code with each identifier, each length without data, and heads that are cut behind one byte, two and three.
func TestP7_1GetEveryHead(t *testing.T) {
	for first := range 256 {
		checkGot(t, text(byte(first)))
		for second := range 256 {
			checkGot(t, text(byte(first), byte(second)))
			checkGot(t, text(0, byte(first), byte(second)))
			checkGot(t, text(byte(first), byte(second), 0, 6, 97, 98, 99))
			checkGot(t, text(byte(first), byte(second), 0, 3, 97))
			checkGot(t, text(9, 1, byte(first), byte(second)))
		}
	}
}

// TestP7_1GetEveryCut: of a packet's prefixes, only the whole one is got; all others want bytes.
func TestP7_1GetEveryCut(t *testing.T) {
	for _, whole := range []string{text(9, 1, 0, 6, 97, 98), text(1, 2, 5, 220) + strings.Repeat("x", 1496)} {
		for n := range len(whole) {
			if p, padding, e := Get(whole[:n]); p != (api.Packet{}) || padding != 0 || e != api.ErrEnd {
				t.Fatalf("Get of %d bytes of %d = %.40q, %d, %v", n, len(whole), p, padding, e)
			}
		}
		want := api.Packet{Code: whole[0], Id: whole[1], Data: whole[4:]}
		if p, padding, e := Get(whole); p != want || padding != 0 || e != api.OK {
			t.Fatalf("Get of %d bytes = %.40q, %d, %v", len(whole), p, padding, e)
		}
	}
}

// TestP7_2KnownEvery: each code, for each protocol that knows some, and for others.
func TestP7_2KnownEvery(t *testing.T) {
	for code := range 256 {
		for proto, last := range map[uint16]int{0xc021: 11, 0x8021: 7} {
			if got := Known(proto, uint8(code)); got != (1 <= code && code <= last) {
				t.Errorf("Known(%#04x, %d) = %v", proto, code, got)
			}
		}
		for _, proto := range []uint16{0, 1, 0x0021, 0x21c0, 0x2180, 0x8020, 0x8022, 0x80fd, 0xc020, 0xc022, 0xc023, 0xc025, 0xc223, 0xffff} {
			if Known(proto, uint8(code)) {
				t.Errorf("Known(%#04x, %d)", proto, code)
			}
		}
	}
}

// TestP7_2KnownProtocols: a code that both know, for each number from 0 to 65535.
func TestP7_2KnownProtocols(t *testing.T) {
	for number := range 1 << 16 {
		proto := uint16(number)
		both, lcp := proto == 0xc021 || proto == 0x8021, proto == 0xc021
		if Known(proto, api.ConfReq) != both || Known(proto, api.CodeRej) != both ||
			Known(proto, api.ProtoRej) != lcp || Known(proto, api.Discard) != lcp {
			t.Errorf("Known(%#04x, ..)", proto)
		}
	}
}

// TestP7_2Trim: a most that is negative, 0, within, one less than there is, as many, one more, and very great.
func TestP7_2Trim(t *testing.T) {
	for _, c := range []struct {
		s    string
		most int
		want string
		e    api.Errno
	}{
		{"abc", math.MinInt, "", api.ErrArg},
		{"abc", -4, "", api.ErrArg},
		{"abc", -1, "", api.ErrArg},
		{"", -1, "", api.ErrArg},
		{"", 0, "", api.OK},
		{"", 1, "", api.OK},
		{"", math.MaxInt, "", api.OK},
		{"abc", 0, "", api.OK},
		{"abc", 1, "a", api.OK},
		{"abc", 2, "ab", api.OK},
		{"abc", 3, "abc", api.OK},
		{"abc", 4, "abc", api.OK},
		{"abc", 1500, "abc", api.OK},
		{"abc", math.MaxInt32, "abc", api.OK},
		{"abc", math.MaxInt, "abc", api.OK},
		{"\xc3\xa9\x00", 1, "\xc3", api.OK}, // bytes, not runes
		{"\x00\x00", 1, "\x00", api.OK},
	} {
		if got, e := Trim(c.s, c.most); got != c.want || e != c.e {
			t.Errorf("Trim(%q, %d) = %q, %v, want %q, %v", c.s, c.most, got, e, c.want, c.e)
		}
	}
}

// TestP7_2TrimLong: no limit is set on what is trimmed.
func TestP7_2TrimLong(t *testing.T) {
	s := strings.Repeat("0123456789", 10000)
	for _, most := range []int{0, 1, 255, 256, 1496, 1500, 1501, 65535, 65536, 99999, 100000, 100001, math.MaxInt} {
		if got, e := Trim(s, most); got != s[:min(most, 100000)] || e != api.OK {
			t.Errorf("Trim of %d bytes, at most %d: %d bytes, %v", len(s), most, len(got), e)
		}
	}
}

// TestP7_3Inverse: what was put is got again, whatever padding there is.
func TestP7_3Inverse(t *testing.T) {
	check := func(p api.Packet, behind string) {
		sent, e := Put(p)
		if e != api.OK {
			t.Fatalf("Put(%.40q): %v", p, e)
		}
		if got, padding, e := Get(sent + behind); got != p || padding != len(behind) || e != api.OK {
			t.Fatalf("Get(Put(%.40q) and %d bytes) = %.40q, %d, %v", p, len(behind), got, padding, e)
		}
	}
	for _, data := range datas() {
		for _, behind := range paddings() {
			check(api.Packet{Code: 1, Id: 2, Data: data}, behind)
			check(api.Packet{Code: 255, Data: data}, behind)
		}
	}
	for code := range 256 {
		for id := range 256 {
			check(api.Packet{Code: uint8(code), Id: uint8(id), Data: "ab"}, "")
			check(api.Packet{Code: uint8(code), Id: uint8(id)}, "\x00")
		}
	}
	for n := range 1497 {
		check(api.Packet{Code: 1, Id: 2, Data: strings.Repeat("x", n)}, "")
		check(api.Packet{Code: 1, Id: 2, Data: strings.Repeat("x", n)}, "xx")
	}
}

// TestP7_3GotIsPut: what Get returns of any bytes, put again, is those bytes without the padding.
func TestP7_3GotIsPut(t *testing.T) {
	taken := 0
	check := func(s string) {
		p, padding, e := Get(s)
		if e != api.OK {
			return
		}
		taken++
		if padding < 0 || padding > len(s) {
			t.Fatalf("Get(%d bytes): %d of padding", len(s), padding)
		}
		if again, e := Put(p); again != s[:len(s)-padding] || e != api.OK {
			t.Fatalf("Put(%.40q) = %.40q, %v, got from %.40q", p, again, e, s)
		}
	}
	tails := append(datas(), paddings()...)
	for n := range 1 << 11 { // lengths up to 2047, some of them too great
		for _, tail := range tails {
			check(text(byte(n), byte(n/7), byte(n/256), byte(n%256)) + tail)
		}
	}
	if taken == 0 {
		t.Error("nothing was got")
	}
}
