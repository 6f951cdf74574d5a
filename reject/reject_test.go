package reject

import (
	"math"
	"strings"
	"testing"

	"halyard/api"
	"halyard/packet"
)

// text is these bytes as a string.
func text(l ...byte) string { return string(l) }

// long is n bytes of which no two neighbours are alike, so that a piece of it from elsewhere, or cut elsewhere, is another one.
func long(n int) string {
	l := make([]byte, n)
	for i := range l {
		l[i] = byte(i%251 + 1)
	}
	return string(l)
}

// cutTo is the chapter's "truncated": what is left of the data so that a packet has at most mru bytes, and its data at most 1496.
func cutTo(mru int, data string) string {
	most := mru - 4
	if most > 1496 {
		most = 1496
	}
	if len(data) > most {
		return data[:most]
	}
	return data
}

// toCode is the chapter's words on Code, one after the other.
func toCode(id uint8, p api.Packet, mru int) (api.Packet, api.Errno) {
	if mru < 64 || mru > 65535 {
		return api.Packet{}, api.ErrArg
	}
	n := 4 + len(p.Data)
	if n > 1500 {
		return api.Packet{}, api.ErrLong
	}
	whole := text(p.Code, p.Id, byte(n/256), byte(n%256)) + p.Data
	return api.Packet{Code: 7, Id: id, Data: cutTo(mru, whole)}, api.OK
}

// toProto is the chapter's words on Proto, one after the other.
func toProto(id uint8, proto uint16, s string, mru int) (api.Packet, api.Errno) {
	if mru < 64 || mru > 65535 {
		return api.Packet{}, api.ErrArg
	}
	return api.Packet{Code: 8, Id: id, Data: cutTo(mru, text(byte(proto/256), byte(proto%256))+s)}, api.OK
}

// checkCode holds Code against the chapter's words, and what it returns against P11.4.
func checkCode(t *testing.T, id uint8, p api.Packet, mru int) {
	t.Helper()
	want, wantErr := toCode(id, p, mru)
	got, e := Code(id, p, mru)
	if got != want || e != wantErr {
		t.Fatalf("Code(%d, %d %d with %d bytes, %d) = %d %d with %d bytes, %v, want %d %d with %d bytes, %v",
			id, p.Code, p.Id, len(p.Data), mru, got.Code, got.Id, len(got.Data), e, want.Code, want.Id, len(want.Data), wantErr)
	}
	if e == api.OK {
		checkSize(t, got, mru)
	}
}

// checkProto is the same of Proto.
func checkProto(t *testing.T, id uint8, proto uint16, s string, mru int) {
	t.Helper()
	want, wantErr := toProto(id, proto, s, mru)
	got, e := Proto(id, proto, s, mru)
	if got != want || e != wantErr {
		t.Fatalf("Proto(%d, %#04x, %d bytes, %d) = %d %d with %d bytes, %v, want %d %d with %d bytes, %v",
			id, proto, len(s), mru, got.Code, got.Id, len(got.Data), e, want.Code, want.Id, len(want.Data), wantErr)
	}
	if e == api.OK {
		checkSize(t, got, mru)
	}
}

// checkSize: the packet can be encoded, in at most mru bytes, and at most 1500.
func checkSize(t *testing.T, p api.Packet, mru int) {
	t.Helper()
	sent, e := packet.Put(p)
	if e != api.OK {
		t.Fatalf("a packet with %d bytes can't be encoded: %v", len(p.Data), e)
	}
	if len(sent) > mru || len(sent) > 1500 {
		t.Fatalf("a packet has %d bytes, with an mru of %d", len(sent), mru)
	}
}

// goodMrus are the edges of what an mru may be, and of where it matters.
func goodMrus() []int {
	return []int{64, 65, 66, 67, 68, 69, 70, 100, 255, 256, 257, 576, 1495, 1496, 1497, 1498, 1499, 1500, 1501, 1502, 1503, 1504, 1505, 2000, 65534, 65535}
}

// badMrus are none: too small, too great, and such as would be good ones in fewer bits.
func badMrus() []int {
	return []int{
		63, 62, 4, 3, 2, 1, 0, -1, -4, -63, -64, -65, -1500, -65535, -65536, math.MinInt32, math.MinInt,
		65536, 65537, 65600, 65536 + 64, 65536 + 1500, 131071, 1 << 20, 1<<32 + 1500, math.MaxInt32, math.MaxInt,
	}
}

// datas are empty, short and long ones, and those whose bytes look like packets, or rejects.
func datas() []string {
	l := []string{
		"", "x", "ab", "\x00", "\xff", "\x00\x00\x00\x00", "\x01\x01\x00\x04", "\x07\x03\x00\x0acc\x00\x06ab", "\xc3\xa9\xe2\x82\xac", "\xfe\x80\xff",
		"\x00\x04", "\x00\x03zzz", "\xc0\x21x", "\xff\x03\xc0\x21\x09\x01\x00\x04", strings.Repeat("\x00", 60),
		long(55), long(56), long(57), long(58), long(59), long(60), long(61), long(251), long(252), long(253),
		long(1000), long(1488), long(1491), long(1492), long(1493), long(1494), long(1495), long(1496),
	}
	var every [256]byte
	for i := range every {
		every[i] = byte(i)
	}
	return append(l, string(every[:]))
}

// longer are data that no packet has.
func longer() []string {
	return []string{long(1497), long(1498), long(1500), long(1501), long(65531), long(65535), long(65536), long(65540), long(200000), strings.Repeat("\x00", 1497)}
}

// TestP11_1CodeKnown: the chapter's example, and others whose bytes are written out.
func TestP11_1CodeKnown(t *testing.T) {
	x := strings.Repeat("x", 1496)
	for _, c := range []struct {
		id   uint8
		p    api.Packet
		mru  int
		want string
	}{
		{3, api.Packet{Code: 99, Id: 1, Data: "ab"}, 1500, text(99, 1, 0, 6, 97, 98)},
		{3, api.Packet{Code: 99, Id: 1, Data: "ab"}, 64, text(99, 1, 0, 6, 97, 98)},
		{3, api.Packet{Code: 99, Id: 1, Data: "ab"}, 65535, text(99, 1, 0, 6, 97, 98)},
		{0, api.Packet{}, 64, text(0, 0, 0, 4)},
		{255, api.Packet{Code: 255, Id: 254}, 64, text(255, 254, 0, 4)},
		{7, api.Packet{Code: 1, Id: 2, Data: "\x00"}, 64, text(1, 2, 0, 5, 0)}, // a code that is known is rejected as any other
		{7, api.Packet{Code: 7, Id: 7, Data: "cc\x00\x04"}, 64, text(7, 7, 0, 8, 99, 99, 0, 4)},
		// 56 bytes just fit into 64: 4, 4 and 56. The length stays that of the packet that is rejected.
		{1, api.Packet{Code: 12, Id: 2, Data: x[:55]}, 64, text(12, 2, 0, 59) + x[:55]},
		{1, api.Packet{Code: 12, Id: 2, Data: x[:56]}, 64, text(12, 2, 0, 60) + x[:56]},
		{1, api.Packet{Code: 12, Id: 2, Data: x[:57]}, 64, text(12, 2, 0, 61) + x[:56]},
		{1, api.Packet{Code: 12, Id: 2, Data: x[:57]}, 65, text(12, 2, 0, 61) + x[:57]},
		{1, api.Packet{Code: 12, Id: 2, Data: x[:58]}, 64, text(12, 2, 0, 62) + x[:56]},
		{1, api.Packet{Code: 12, Id: 2, Data: x}, 64, text(12, 2, 5, 220) + x[:56]},
		// 1492 bytes just fit into MaxInfo, whatever the mru is beyond that.
		{1, api.Packet{Code: 12, Id: 2, Data: x[:1491]}, 1500, text(12, 2, 5, 215) + x[:1491]},
		{1, api.Packet{Code: 12, Id: 2, Data: x[:1492]}, 1499, text(12, 2, 5, 216) + x[:1491]},
		{1, api.Packet{Code: 12, Id: 2, Data: x[:1492]}, 1500, text(12, 2, 5, 216) + x[:1492]},
		{1, api.Packet{Code: 12, Id: 2, Data: x[:1493]}, 1500, text(12, 2, 5, 217) + x[:1492]},
		{1, api.Packet{Code: 12, Id: 2, Data: x[:1493]}, 1501, text(12, 2, 5, 217) + x[:1492]},
		{1, api.Packet{Code: 12, Id: 2, Data: x}, 1500, text(12, 2, 5, 220) + x[:1492]},
		{1, api.Packet{Code: 12, Id: 2, Data: x}, 1504, text(12, 2, 5, 220) + x[:1492]},
		{1, api.Packet{Code: 12, Id: 2, Data: x}, 65535, text(12, 2, 5, 220) + x[:1492]},
	} {
		got, e := Code(c.id, c.p, c.mru)
		if got != (api.Packet{Code: 7, Id: c.id, Data: c.want}) || e != api.OK {
			t.Errorf("Code(%d, %.40q, %d) = %.40q, %v, want %.40q", c.id, c.p, c.mru, got, e, c.want)
		}
	}
}

// TestP11_1ProtoKnown: the chapter's example, and others whose bytes are written out.
func TestP11_1ProtoKnown(t *testing.T) {
	x := strings.Repeat("x", 100000)
	for _, c := range []struct {
		id    uint8
		proto uint16
		s     string
		mru   int
		want  string
	}{
		{4, 0x0057, "x", 64, text(0, 87, 120)},
		{4, 0x0057, "x", 1500, text(0, 87, 120)},
		{4, 0x0057, "x", 65535, text(0, 87, 120)},
		{0, 0x0000, "", 64, text(0, 0)}, // these four are no protocols (layer 6), and are rejected as any other
		{0, 0x00ff, "", 64, text(0, 255)},
		{255, 0x0100, "", 64, text(1, 0)},
		{255, 0xffff, "\x00", 64, text(255, 255, 0)},
		{9, 0x80fd, "\x80\xfd", 64, text(128, 253, 128, 253)},
		{9, 0xc021, "\x09\x01\x00\x04", 64, text(192, 33, 9, 1, 0, 4)},
		// 58 bytes just fit into 64: 4, 2 and 58.
		{1, 0x8057, x[:57], 64, text(128, 87) + x[:57]},
		{1, 0x8057, x[:58], 64, text(128, 87) + x[:58]},
		{1, 0x8057, x[:59], 64, text(128, 87) + x[:58]},
		{1, 0x8057, x[:59], 65, text(128, 87) + x[:59]},
		{1, 0x8057, x[:60], 64, text(128, 87) + x[:58]},
		{1, 0x8057, x, 64, text(128, 87) + x[:58]},
		// 1494 bytes just fit into MaxInfo, whatever the mru is beyond that.
		{1, 0x8057, x[:1493], 1500, text(128, 87) + x[:1493]},
		{1, 0x8057, x[:1494], 1499, text(128, 87) + x[:1493]},
		{1, 0x8057, x[:1494], 1500, text(128, 87) + x[:1494]},
		{1, 0x8057, x[:1495], 1500, text(128, 87) + x[:1494]},
		{1, 0x8057, x[:1495], 1501, text(128, 87) + x[:1494]},
		{1, 0x8057, x[:1496], 1504, text(128, 87) + x[:1494]},
		{1, 0x8057, x[:1497], 65535, text(128, 87) + x[:1494]},
		{1, 0x8057, x, 65535, text(128, 87) + x[:1494]},
	} {
		got, e := Proto(c.id, c.proto, c.s, c.mru)
		if got != (api.Packet{Code: 8, Id: c.id, Data: c.want}) || e != api.OK {
			t.Errorf("Proto(%d, %#04x, %.20q, %d) = %.40q, %v, want %.40q", c.id, c.proto, c.s, c.mru, got, e, c.want)
		}
	}
}

// TestP11_1BadMru: each mru that may not be, with nothing beside the error (R2); a packet that can't be encoded as well does not matter.
func TestP11_1BadMru(t *testing.T) {
	for _, mru := range badMrus() {
		for _, data := range append(datas(), longer()...) {
			for _, code := range []uint8{0, 7, 99, 255} {
				if got, e := Code(3, api.Packet{Code: code, Id: 1, Data: data}, mru); got != (api.Packet{}) || e != api.ErrArg {
					t.Errorf("Code of %d bytes with an mru of %d = %.40q, %v", len(data), mru, got, e)
				}
			}
			for _, proto := range []uint16{0, 0x0057, 0x00ff, 0x0100, 0xc021, 0xffff} {
				if got, e := Proto(4, proto, data, mru); got != (api.Packet{}) || e != api.ErrArg {
					t.Errorf("Proto of %d bytes with an mru of %d = %.40q, %v", len(data), mru, got, e)
				}
			}
		}
	}
}

// TestP11_1CodeLong: a packet that can't be encoded, with nothing beside the error (R2), even where as much of it as there is space for could be told.
func TestP11_1CodeLong(t *testing.T) {
	for _, mru := range goodMrus() {
		for _, data := range longer() {
			for _, p := range []api.Packet{{Code: 99, Id: 1, Data: data}, {Data: data}} {
				if got, e := Code(3, p, mru); got != (api.Packet{}) || e != api.ErrLong {
					t.Errorf("Code of %d bytes with an mru of %d = %.40q, %v", len(data), mru, got, e)
				}
			}
		}
		// One byte less can be encoded.
		if got, e := Code(3, api.Packet{Code: 99, Id: 1, Data: long(1496)}, mru); got.Code != 7 || e != api.OK {
			t.Errorf("Code of 1496 bytes with an mru of %d = %.40q, %v", mru, got, e)
		}
	}
}

// TestP11_1ProtoAnyLength: a payload may be longer than what any packet has.
func TestP11_1ProtoAnyLength(t *testing.T) {
	for _, mru := range goodMrus() {
		for _, s := range append(longer(), long(1<<24)) {
			checkProto(t, 4, 0x0057, s, mru)
		}
	}
}

// TestP11_1EveryMru: each mru that may be, and some on both sides of them, against the definitions.
func TestP11_1EveryMru(t *testing.T) {
	few, many := long(70), long(1496)
	for mru := -100; mru <= 65800; mru++ {
		checkCode(t, 3, api.Packet{Code: 99, Id: 1, Data: few}, mru)
		checkCode(t, 3, api.Packet{Code: 99, Id: 1, Data: many}, mru)
		checkProto(t, 4, 0x8057, few, mru)
		checkProto(t, 4, 0x8057, many, mru)
	}
}

// TestP11_1EveryLength: each length of data and of payload with each mru at an edge, against the definitions.
func TestP11_1EveryLength(t *testing.T) {
	x := long(1600)
	for n := range 1601 {
		for _, mru := range goodMrus() {
			checkCode(t, 200, api.Packet{Code: 12, Id: 34, Data: x[:n]}, mru)
			checkProto(t, 201, 0x8057, x[:n], mru)
		}
	}
}

// TestP11_1EveryNumber: each identifier, each code with each identifier in it, and each protocol, against the definitions.
func TestP11_1EveryNumber(t *testing.T) {
	for first := range 256 {
		for second := range 256 {
			checkCode(t, uint8(first+second), api.Packet{Code: uint8(first), Id: uint8(second), Data: "ab"}, 64)
			checkCode(t, uint8(first), api.Packet{Code: uint8(second), Id: 5}, 1500)
			checkProto(t, uint8(first), uint16(first)<<8|uint16(second), "", 64)
			checkProto(t, uint8(second), uint16(first)<<8|uint16(second), "ab", 65535)
		}
	}
}

// TestP11_1EveryData: each data of note with each mru of note, twice: the answer is the same (R6).
func TestP11_1EveryData(t *testing.T) {
	for range 2 {
		for _, data := range append(datas(), longer()...) {
			for _, mru := range append(goodMrus(), badMrus()...) {
				checkCode(t, 0, api.Packet{Code: 0, Id: 255, Data: data}, mru)
				for _, proto := range []uint16{0, 0x00ff, 0x0100, 0xffff} {
					checkProto(t, 255, proto, data, mru)
				}
			}
		}
	}
}

// TestP11_2RejectedKnown: data of no byte, one, two, three and many.
func TestP11_2RejectedKnown(t *testing.T) {
	x := long(70000)
	for _, c := range []struct {
		data  string
		proto uint16
		s     string
		e     api.Errno
	}{
		{"", 0, "", api.ErrEnd},
		{text(0), 0, "", api.ErrEnd},
		{text(192), 0, "", api.ErrEnd},
		{text(255), 0, "", api.ErrEnd},
		{text(0, 0), 0, "", api.OK},
		{text(0, 87), 0x0057, "", api.OK},
		{text(0, 87, 120), 0x0057, "x", api.OK},
		{text(0, 255), 0x00ff, "", api.OK},
		{text(1, 0), 0x0100, "", api.OK},
		{text(1, 0, 0), 0x0100, "\x00", api.OK},
		{text(255, 255), 0xffff, "", api.OK},
		{text(255, 255, 255), 0xffff, "\xff", api.OK},
		{text(192, 33, 9, 1, 0, 4), 0xc021, "\x09\x01\x00\x04", api.OK},
		{text(128, 253, 0xc3, 0xa9), 0x80fd, "\xc3\xa9", api.OK},
		{text(128, 87) + x[:1494], 0x8057, x[:1494], api.OK},
		{text(128, 87) + x, 0x8057, x, api.OK}, // how long it is does not matter
	} {
		for _, id := range []uint8{0, 1, 255} {
			proto, s, e := Rejected(api.Packet{Code: 8, Id: id, Data: c.data})
			if proto != c.proto || s != c.s || e != c.e {
				t.Errorf("Rejected(%.20q) = %#04x, %.20q, %v, want %#04x, %.20q, %v", c.data, proto, s, e, c.proto, c.s, c.e)
			}
		}
	}
}

// TestP11_2RejectedEvery: each protocol with each identifier, and what follows it.
func TestP11_2RejectedEvery(t *testing.T) {
	for first := range 256 {
		if proto, s, e := Rejected(api.Packet{Code: 8, Id: 1, Data: text(byte(first))}); proto != 0 || s != "" || e != api.ErrEnd {
			t.Errorf("Rejected(%d) = %#04x, %q, %v", first, proto, s, e)
		}
		for second := range 256 {
			for _, rest := range []string{"", "x", "\x00\x57x"} {
				p := api.Packet{Code: 8, Id: uint8(second), Data: text(byte(first), byte(second)) + rest}
				if proto, s, e := Rejected(p); int(proto) != first*256+second || s != rest || e != api.OK {
					t.Fatalf("Rejected(%q) = %#04x, %q, %v", p.Data, proto, s, e)
				}
			}
		}
	}
}

// TestP11_2RejectedOther: each other code, with whatever data, also with too few bytes (the code comes first, R2).
func TestP11_2RejectedOther(t *testing.T) {
	for code := range 256 {
		if code == 8 {
			continue
		}
		for _, data := range datas() {
			if proto, s, e := Rejected(api.Packet{Code: uint8(code), Id: 1, Data: data}); proto != 0 || s != "" || e != api.ErrArg {
				t.Fatalf("Rejected of the code %d with %.20q = %#04x, %.20q, %v", code, data, proto, s, e)
			}
		}
	}
}

// TestP11_2InnerKnown: data of no byte, three, four, five and many, and lengths in them of every kind.
func TestP11_2InnerKnown(t *testing.T) {
	x := long(70000)
	for _, c := range []struct {
		data string
		want api.Packet
		e    api.Errno
	}{
		{"", api.Packet{}, api.ErrEnd},
		{text(99), api.Packet{}, api.ErrEnd},
		{text(99, 1), api.Packet{}, api.ErrEnd},
		{text(99, 1, 0), api.Packet{}, api.ErrEnd},
		{text(99, 1, 4), api.Packet{}, api.ErrEnd},
		{text(99, 1, 0, 4), api.Packet{Code: 99, Id: 1}, api.OK},
		{text(99, 1, 0, 5, 97), api.Packet{Code: 99, Id: 1, Data: "a"}, api.OK},
		{text(99, 1, 0, 6, 97, 98), api.Packet{Code: 99, Id: 1, Data: "ab"}, api.OK},
		{text(0, 0, 0, 0), api.Packet{}, api.OK},
		{text(255, 254, 0, 4), api.Packet{Code: 255, Id: 254}, api.OK},
		// A length that is greater than what is there: the packet was truncated.
		{text(99, 1, 0, 5), api.Packet{Code: 99, Id: 1}, api.OK},
		{text(99, 1, 0, 7, 97, 98), api.Packet{Code: 99, Id: 1, Data: "ab"}, api.OK},
		{text(99, 1, 5, 220) + x[:56], api.Packet{Code: 99, Id: 1, Data: x[:56]}, api.OK},
		{text(99, 1, 5, 221, 97), api.Packet{Code: 99, Id: 1, Data: "a"}, api.OK},
		{text(99, 1, 255, 255), api.Packet{Code: 99, Id: 1}, api.OK},
		{text(99, 1, 255, 255, 97), api.Packet{Code: 99, Id: 1, Data: "a"}, api.OK},
		// One that is less than what is there, less than the head, or nothing: it is not looked at.
		{text(99, 1, 0, 4, 97), api.Packet{Code: 99, Id: 1, Data: "a"}, api.OK},
		{text(99, 1, 0, 5, 97, 98), api.Packet{Code: 99, Id: 1, Data: "ab"}, api.OK},
		{text(99, 1, 0, 3), api.Packet{Code: 99, Id: 1}, api.OK},
		{text(99, 1, 0, 3, 97), api.Packet{Code: 99, Id: 1, Data: "a"}, api.OK},
		{text(99, 1, 0, 1, 97, 98), api.Packet{Code: 99, Id: 1, Data: "ab"}, api.OK},
		{text(99, 1, 0, 0), api.Packet{Code: 99, Id: 1}, api.OK},
		{text(99, 1, 0, 0, 97), api.Packet{Code: 99, Id: 1, Data: "a"}, api.OK},
		{text(7, 3, 0, 10, 7, 3, 0, 6, 97, 98), api.Packet{Code: 7, Id: 3, Data: text(7, 3, 0, 6, 97, 98)}, api.OK}, // only the outer one
		{text(99, 1, 5, 220) + x[:1492], api.Packet{Code: 99, Id: 1, Data: x[:1492]}, api.OK},
		{text(99, 1, 5, 220) + x, api.Packet{Code: 99, Id: 1, Data: x}, api.OK}, // how long it is does not matter
	} {
		for _, id := range []uint8{0, 1, 255} {
			if got, e := Inner(api.Packet{Code: 7, Id: id, Data: c.data}); got != c.want || e != c.e {
				t.Errorf("Inner(%.20q) = %.20q, %v, want %.20q, %v", c.data, got, e, c.want, c.e)
			}
		}
	}
}

// TestP11_2InnerEvery: each code with each identifier, and each length, with no byte behind them and with some.
func TestP11_2InnerEvery(t *testing.T) {
	for first := range 256 {
		for second := range 256 {
			a, b := byte(first), byte(second)
			for _, rest := range []string{"", "x", "\x63\x01\x00\x04"} {
				if got, e := Inner(api.Packet{Code: 7, Id: b, Data: text(a, b, 0, 6) + rest}); got != (api.Packet{Code: a, Id: b, Data: rest}) || e != api.OK {
					t.Fatalf("Inner(%d %d 0 6 and %q) = %q, %v", a, b, rest, got, e)
				}
				if got, e := Inner(api.Packet{Code: 7, Id: a, Data: text(99, 1, a, b) + rest}); got != (api.Packet{Code: 99, Id: 1, Data: rest}) || e != api.OK {
					t.Fatalf("Inner(99 1 %d %d and %q) = %q, %v", a, b, rest, got, e)
				}
			}
			if got, e := Inner(api.Packet{Code: 7, Id: 1, Data: text(99, a, b)}); got != (api.Packet{}) || e != api.ErrEnd {
				t.Fatalf("Inner(99 %d %d) = %q, %v", a, b, got, e)
			}
		}
	}
}

// TestP11_2InnerOther: each other code, with whatever data, also with too few bytes (the code comes first, R2).
func TestP11_2InnerOther(t *testing.T) {
	for code := range 256 {
		if code == 7 {
			continue
		}
		for _, data := range datas() {
			if got, e := Inner(api.Packet{Code: uint8(code), Id: 1, Data: data}); got != (api.Packet{}) || e != api.ErrArg {
				t.Fatalf("Inner of the code %d with %.20q = %.20q, %v", code, data, got, e)
			}
		}
	}
}

// TestP11_3ReplyKnown: some that are written out; nothing of what is answered stays but the identifier.
func TestP11_3ReplyKnown(t *testing.T) {
	for _, c := range []struct {
		p    api.Packet
		code uint8
		s    string
		want api.Packet
	}{
		{api.Packet{Code: 1, Id: 7, Data: "ab"}, 2, "ab", api.Packet{Code: 2, Id: 7, Data: "ab"}},
		{api.Packet{Code: 9, Id: 255, Data: "\x00\x00\x00\x01abc"}, 10, "\x00\x00\x00\x02abc", api.Packet{Code: 10, Id: 255, Data: "\x00\x00\x00\x02abc"}},
		{api.Packet{Code: 5, Id: 0, Data: "bye"}, 6, "", api.Packet{Code: 6}},
		{api.Packet{}, 0, "", api.Packet{}},
		{api.Packet{}, 255, "\x00", api.Packet{Code: 255, Data: "\x00"}},
		{api.Packet{Code: 99, Id: 1}, 99, "x", api.Packet{Code: 99, Id: 1, Data: "x"}}, // a code need not be known
	} {
		if got, e := Reply(c.p, c.code, c.s); got != c.want || e != api.OK {
			t.Errorf("Reply(%q, %d, %q) = %q, %v, want %q", c.p, c.code, c.s, got, e, c.want)
		}
	}
}

// TestP11_3ReplyEvery: each code to each code and each identifier, and each length that may be.
func TestP11_3ReplyEvery(t *testing.T) {
	check := func(p api.Packet, code uint8, s string) {
		t.Helper()
		got, e := Reply(p, code, s)
		if got != (api.Packet{Code: code, Id: p.Id, Data: s}) || e != api.OK {
			t.Fatalf("Reply(%d %d with %d bytes, %d, %d bytes) = %d %d with %d bytes, %v", p.Code, p.Id, len(p.Data), code, len(s), got.Code, got.Id, len(got.Data), e)
		}
		checkSize(t, got, api.MaxInfo)
	}
	for first := range 256 {
		for second := range 256 {
			check(api.Packet{Code: 1, Id: uint8(first), Data: "ab"}, uint8(second), "cd")
			check(api.Packet{Code: uint8(first), Id: 5, Data: "ab"}, uint8(second), "")
		}
	}
	x := long(1496)
	for n := range 1497 {
		check(api.Packet{Code: 1, Id: 7, Data: "ab"}, 2, x[:n])
	}
	for range 2 { // the same when asked again (R6)
		for _, s := range datas() {
			for _, data := range append(datas(), longer()...) { // what is answered may be any, also one that can't be encoded
				check(api.Packet{Code: 1, Id: 200, Data: data}, 255, s)
			}
		}
	}
}

// TestP11_3ReplyLong: one byte too many, and many, to any packet, with nothing beside the error (R2).
func TestP11_3ReplyLong(t *testing.T) {
	for _, s := range longer() {
		for _, data := range append(datas(), longer()...) {
			for _, p := range []api.Packet{{Code: 1, Id: 7, Data: data}, {Data: data}} {
				if got, e := Reply(p, 2, s); got != (api.Packet{}) || e != api.ErrLong {
					t.Errorf("Reply of %d bytes to %d bytes = %.40q, %v", len(s), len(data), got, e)
				}
			}
		}
	}
}

// TestP11_4Code: a Code-Reject, sent and got, contains the packet's head and data; all of these, unless it is as long as it may be.
func TestP11_4Code(t *testing.T) {
	for _, mru := range goodMrus() {
		for _, data := range datas() {
			p := api.Packet{Code: 77, Id: 55, Data: data}
			r, e := Code(3, p, mru)
			if e != api.OK {
				t.Fatalf("Code of %d bytes with an mru of %d: %v", len(data), mru, e)
			}
			checkSize(t, r, mru)
			in, e := Inner(throughPacket(t, r))
			if in.Code != 77 || in.Id != 55 || !strings.HasPrefix(data, in.Data) || e != api.OK {
				t.Fatalf("Inner of Code of %d bytes with an mru of %d = %.40q, %v", len(data), mru, in, e)
			}
			if len(r.Data)+4 < min(mru, 1500) && in.Data != data {
				t.Fatalf("of %d bytes with an mru of %d only %d are in a packet of %d", len(data), mru, len(in.Data), len(r.Data)+4)
			}
		}
	}
}

// TestP11_4Proto: the same of a Protocol-Reject.
func TestP11_4Proto(t *testing.T) {
	for _, mru := range goodMrus() {
		for _, payload := range append(datas(), longer()...) {
			for _, number := range []uint16{0, 0x0021, 0x00ff, 0x0100, 0x8057, 0xffff} {
				r, e := Proto(4, number, payload, mru)
				if e != api.OK {
					t.Fatalf("Proto of %d bytes with an mru of %d: %v", len(payload), mru, e)
				}
				checkSize(t, r, mru)
				proto, s, e := Rejected(throughPacket(t, r))
				if proto != number || !strings.HasPrefix(payload, s) || e != api.OK {
					t.Fatalf("Rejected of Proto of %#04x and %d bytes with an mru of %d = %#04x, %.40q, %v", number, len(payload), mru, proto, s, e)
				}
				if len(r.Data)+4 < min(mru, 1500) && s != payload {
					t.Fatalf("of %d bytes with an mru of %d only %d are in a packet of %d", len(payload), mru, len(s), len(r.Data)+4)
				}
			}
		}
	}
}

// TestP11_4Again: a reject is a packet as well, and can be rejected, or answered, itself.
func TestP11_4Again(t *testing.T) {
	for _, mru := range goodMrus() {
		for _, data := range datas() {
			r, e := Code(3, api.Packet{Code: 99, Id: 1, Data: data}, mru)
			if e != api.OK {
				t.Fatalf("Code of %d bytes with an mru of %d: %v", len(data), mru, e)
			}
			checkCode(t, 4, r, mru)
			if in, e := Inner(r); e != api.OK {
				t.Fatalf("Inner of %.20q: %v", r, e)
			} else {
				checkCode(t, 5, in, mru) // what is left of a packet can be encoded
			}
			if got, e := Reply(r, 6, r.Data); got != (api.Packet{Code: 6, Id: 3, Data: r.Data}) || e != api.OK {
				t.Fatalf("Reply to a Code-Reject of %d bytes = %.40q, %v", len(r.Data), got, e)
			}
		}
	}
}

// throughPacket is p, encoded and got again.
func throughPacket(t *testing.T, p api.Packet) api.Packet {
	t.Helper()
	sent, e := packet.Put(p)
	if e != api.OK {
		t.Fatalf("a packet with %d bytes can't be encoded: %v", len(p.Data), e)
	}
	got, padding, e := packet.Get(sent)
	if got != p || padding != 0 || e != api.OK {
		t.Fatalf("%.40q is got as %.40q, %d, %v", p, got, padding, e)
	}
	return got
}
