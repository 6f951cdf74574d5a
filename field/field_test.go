package field

import (
	"strings"
	"testing"

	"halyard/api"
)

// comps are the four values of Comp.
func comps() []api.Comp {
	return []api.Comp{{}, {Acfc: true}, {Pfc: true}, {Acfc: true, Pfc: true}}
}

// text is these bytes as a string.
func text(l ...byte) string { return string(l) }

// isProtocol is the chapter's definition, by bits that are counted from the lowest one.
func isProtocol(number int) bool {
	first, ninth := number%2, number/256%2
	return first == 1 && ninth == 0 && number != 255
}

// protocols are all of them, in order.
func protocols() []uint16 {
	var l []uint16
	for number := range 1 << 16 {
		if isProtocol(number) {
			l = append(l, uint16(number))
		}
	}
	return l
}

// information is the chapter's definition, case by case.
func information(proto uint16, s string, c api.Comp) string {
	higher, lower := byte(proto/256), byte(proto%256)
	if proto == 0xc021 {
		return text(255, 3, 192, 33) + s
	}
	var head []byte
	if !c.Acfc {
		head = append(head, 255, 3)
	}
	if !c.Pfc || higher != 0 {
		head = append(head, higher)
	}
	return string(append(head, lower)) + s
}

// payloads are empty, short and long ones, and those whose bytes look like fields.
func payloads() []string {
	l := []string{
		"", "x", "\x00", "\x01", "\x03", "\xff", "\xff\x03", "\xff\x03\x21", "\xff\x03\x00\x21x", "\xff\x03\xff\x03",
		"\xff\x04\x01", "\x03\xff", "\xc0\x21", "\x00\x21", "\xc3\xa9\xe2\x82\xac", "\xfe\x80\xff",
		strings.Repeat("a", 1500), strings.Repeat("\xff\x03", 40000),
	}
	var every [256]byte
	for i := range every {
		every[i] = byte(i)
	}
	return append(l, string(every[:]))
}

// TestP6_1MayEvery: each number from 0 to 65535, and how many of them are protocols.
func TestP6_1MayEvery(t *testing.T) {
	n := 0
	for number := range 1 << 16 {
		got := May(uint16(number))
		if got != isProtocol(number) {
			t.Errorf("May(%#04x) = %v", number, got)
		}
		if got {
			n++
		}
	}
	// Half of the lower bytes with half of the higher ones, but 0x00ff.
	if n != 128*128-1 {
		t.Errorf("%d numbers are protocols", n)
	}
}

// TestP6_1MayKnown: numbers that are told apart by one bit, and those that have a name.
func TestP6_1MayKnown(t *testing.T) {
	for _, c := range []struct {
		proto uint16
		want  bool
	}{
		{0x0000, false}, {0x0001, true}, {0x0002, false}, {0x0003, true},
		{0x00fd, true}, {0x00fe, false}, {0x00ff, false}, {0x0100, false}, {0x0101, false},
		{0x01fd, false}, {0x01ff, false}, {0x0200, false}, {0x0201, true}, {0x02ff, true}, {0x03ff, false},
		{0x8000, false}, {0x8001, true}, {0xfe00, false}, {0xfe01, true}, {0xfeff, true},
		{0xff00, false}, {0xff01, false}, {0xff03, false}, {0xffff, false},
		{api.ProtoIp, true}, {api.ProtoIpcp, true}, {api.ProtoLcp, true}, {api.ProtoPap, true}, {api.ProtoChap, true},
	} {
		if got := May(c.proto); got != c.want {
			t.Errorf("May(%#04x) = %v", c.proto, got)
		}
	}
}

// TestP6_1PutKnown: the chapter's examples, and others whose bytes are written out, with each value of Comp.
func TestP6_1PutKnown(t *testing.T) {
	for _, c := range []struct {
		proto uint16
		s     string
		want  [4]string // with none, Acfc, Pfc, and both
	}{
		{0x0021, "x", [4]string{text(255, 3, 0, 33, 120), text(0, 33, 120), text(255, 3, 33, 120), text(33, 120)}},
		{0xc021, "x", [4]string{text(255, 3, 192, 33, 120), text(255, 3, 192, 33, 120), text(255, 3, 192, 33, 120), text(255, 3, 192, 33, 120)}},
		{0x8021, "x", [4]string{text(255, 3, 128, 33, 120), text(128, 33, 120), text(255, 3, 128, 33, 120), text(128, 33, 120)}},
		{0xc023, "x", [4]string{text(255, 3, 192, 35, 120), text(192, 35, 120), text(255, 3, 192, 35, 120), text(192, 35, 120)}},
		{0xc223, "x", [4]string{text(255, 3, 194, 35, 120), text(194, 35, 120), text(255, 3, 194, 35, 120), text(194, 35, 120)}},
		{0x0001, "", [4]string{text(255, 3, 0, 1), text(0, 1), text(255, 3, 1), text(1)}},
		{0x00fd, "", [4]string{text(255, 3, 0, 253), text(0, 253), text(255, 3, 253), text(253)}},
		{0x0003, "x", [4]string{text(255, 3, 0, 3, 120), text(0, 3, 120), text(255, 3, 3, 120), text(3, 120)}},
		{0x02ff, "", [4]string{text(255, 3, 2, 255), text(2, 255), text(255, 3, 2, 255), text(2, 255)}},
		{0xfeff, "\x03", [4]string{text(255, 3, 254, 255, 3), text(254, 255, 3), text(255, 3, 254, 255, 3), text(254, 255, 3)}},
		{0xc021, "", [4]string{text(255, 3, 192, 33), text(255, 3, 192, 33), text(255, 3, 192, 33), text(255, 3, 192, 33)}},
		{0x0021, "\xff\x03", [4]string{text(255, 3, 0, 33, 255, 3), text(0, 33, 255, 3), text(255, 3, 33, 255, 3), text(33, 255, 3)}},
		{0xc021, "\xff\x03", [4]string{text(255, 3, 192, 33, 255, 3), text(255, 3, 192, 33, 255, 3), text(255, 3, 192, 33, 255, 3), text(255, 3, 192, 33, 255, 3)}},
	} {
		for i, comp := range comps() {
			if got, e := Put(c.proto, c.s, comp); got != c.want[i] || e != api.OK {
				t.Errorf("Put(%#04x, %q, %v) = %q, %v, want %q", c.proto, c.s, comp, got, e, c.want[i])
			}
		}
	}
}

// TestP6_1PutEvery: each protocol with each value of Comp, against the definition.
func TestP6_1PutEvery(t *testing.T) {
	for _, proto := range protocols() {
		for _, c := range comps() {
			for _, s := range []string{"", "x", "\xff\x03\x21"} {
				if got, e := Put(proto, s, c); got != information(proto, s, c) || e != api.OK {
					t.Fatalf("Put(%#04x, %q, %v) = %q, %v", proto, s, c, got, e)
				}
			}
		}
	}
}

// TestP6_1PutPayloads: the payload goes along as it is, whatever it holds, and the same when asked again (R6).
func TestP6_1PutPayloads(t *testing.T) {
	for range 2 {
		for _, proto := range []uint16{api.ProtoIp, api.ProtoIpcp, api.ProtoLcp, 0x00fd} {
			for _, c := range comps() {
				for _, s := range payloads() {
					if got, e := Put(proto, s, c); got != information(proto, s, c) || e != api.OK {
						t.Fatalf("Put(%#04x, %.20q, %v) = %.20q, %v", proto, s, c, got, e)
					}
				}
			}
		}
	}
}

// TestP6_1PutNone: each number that is no protocol is refused, with nothing beside the error (R2).
func TestP6_1PutNone(t *testing.T) {
	for number := range 1 << 16 {
		if isProtocol(number) {
			continue
		}
		for _, c := range comps() {
			for _, s := range []string{"", "x"} {
				if got, e := Put(uint16(number), s, c); got != "" || e != api.ErrArg {
					t.Fatalf("Put(%#04x, %q, %v) = %q, %v", number, s, c, got, e)
				}
			}
		}
	}
}

// TestP6_2Get: what is whole, what wants bytes, and what is no protocol; nothing beside an error (R2).
func TestP6_2Get(t *testing.T) {
	for _, c := range []struct {
		s     string
		proto uint16
		rest  string
		e     api.Errno
	}{
		// Nothing is left out, or some of it, or all that can be.
		{text(255, 3, 0, 33, 120), 0x0021, "x", api.OK},
		{text(255, 3, 33, 120), 0x0021, "x", api.OK},
		{text(0, 33, 120), 0x0021, "x", api.OK},
		{text(33, 120), 0x0021, "x", api.OK},
		{text(255, 3, 192, 33, 120), 0xc021, "x", api.OK},
		{text(192, 33, 120), 0xc021, "x", api.OK}, // Put never leaves this out, but Get bears it
		{text(128, 33), 0x8021, "", api.OK},
		{text(33), 0x0021, "", api.OK},
		{text(255, 3, 33), 0x0021, "", api.OK},
		{text(0, 33), 0x0021, "", api.OK},
		{text(1, 255, 3), 0x0001, "\xff\x03", api.OK}, // an odd first byte is a protocol, not the higher byte of one
		{text(253), 0x00fd, "", api.OK},
		{text(3, 255), 0x0003, "\xff", api.OK},
		{text(3), 0x0003, "", api.OK},
		{text(255, 3, 3), 0x0003, "", api.OK},
		{text(2, 255), 0x02ff, "", api.OK},
		{text(254, 255, 3), 0xfeff, "\x03", api.OK},
		// The payload is handed out as it is.
		{text(255, 3, 0, 33, 255, 3), 0x0021, "\xff\x03", api.OK},
		{text(255, 3, 33, 255, 3, 33), 0x0021, "\xff\x03\x21", api.OK},
		{text(33, 255, 3), 0x0021, "\xff\x03", api.OK},
		{text(33, 0, 33), 0x0021, "\x00\x21", api.OK},
		// Bytes are wanting.
		{"", 0, "", api.ErrEnd},
		{text(255, 3), 0, "", api.ErrEnd},
		{text(0), 0, "", api.ErrEnd},
		{text(192), 0, "", api.ErrEnd},
		{text(254), 0, "", api.ErrEnd},
		{text(255, 3, 0), 0, "", api.ErrEnd},
		{text(255, 3, 192), 0, "", api.ErrEnd},
		// What is there is no protocol: 0x00ff, in one byte and in two, or one whose lower byte is even.
		{text(255), 0, "", api.ErrForm},
		{text(255, 4, 1), 0, "", api.ErrForm},
		{text(255, 2), 0, "", api.ErrForm},
		{text(255, 0, 33, 120), 0, "", api.ErrForm},
		{text(255, 255, 3, 33), 0, "", api.ErrForm},
		{text(255, 3, 255), 0, "", api.ErrForm},
		{text(255, 3, 255, 3), 0, "", api.ErrForm}, // they are skipped once
		{text(255, 3, 255, 3, 33, 120), 0, "", api.ErrForm},
		{text(255, 3, 255, 3, 0, 33, 120), 0, "", api.ErrForm},
		{text(0, 255), 0, "", api.ErrForm},
		{text(0, 255, 120), 0, "", api.ErrForm},
		{text(255, 3, 0, 255, 120), 0, "", api.ErrForm},
		{text(0, 0), 0, "", api.ErrForm},
		{text(0, 32), 0, "", api.ErrForm},
		{text(0, 32, 33), 0, "", api.ErrForm},
		{text(192, 34, 120), 0, "", api.ErrForm},
		{text(254, 254), 0, "", api.ErrForm},
		{text(255, 3, 192, 34, 120), 0, "", api.ErrForm},
		{text(255, 3, 0, 0), 0, "", api.ErrForm},
	} {
		proto, rest, e := Get(c.s)
		if proto != c.proto || rest != c.rest || e != c.e {
			t.Errorf("Get(%v) = %#04x, %q, %v, want %#04x, %q, %v", []byte(c.s), proto, rest, e, c.proto, c.rest, c.e)
		}
	}
}

// toGet is the chapter's words on Get for bytes behind address and control, byte by byte.
func toGet(l []byte) (proto uint16, rest string, e api.Errno) {
	if len(l) == 0 {
		return 0, "", api.ErrEnd
	}
	number, width := int(l[0]), 1
	if l[0]%2 == 0 {
		if len(l) < 2 {
			return 0, "", api.ErrEnd
		}
		number, width = 256*int(l[0])+int(l[1]), 2
	}
	if !isProtocol(number) {
		return 0, "", api.ErrForm
	}
	return uint16(number), string(l[width:]), api.OK
}

// checkGot holds Get of s against what its bytes behind address and control are.
func checkGot(t *testing.T, s string, behind []byte) {
	wantProto, wantRest, wantErr := toGet(behind)
	proto, rest, e := Get(s)
	if proto != wantProto || rest != wantRest || e != wantErr {
		t.Fatalf("Get(%v) = %#04x, %q, %v, want %#04x, %q, %v", []byte(s), proto, rest, e, wantProto, wantRest, wantErr)
	}
}

// TestP6_2GetEveryStart: all strings of one and of two bytes, alone and with more behind, with and without address and control.
func TestP6_2GetEveryStart(t *testing.T) {
	for first := range 256 {
		one := []byte{byte(first)}
		checkGot(t, string(one), one)
		checkGot(t, "\xff\x03"+string(one), one)
		for second := range 256 {
			for _, tail := range []string{"", "x", "\xff\x03", "\x00\x21"} {
				more := append([]byte{byte(first), byte(second)}, tail...)
				checkGot(t, "\xff\x03"+string(more), more)
				if first == 255 && second == 3 {
					checkGot(t, string(more), more[2:])
				} else {
					checkGot(t, string(more), more)
				}
			}
		}
	}
}

// TestP6_2GetEveryCut: of an information's prefixes, those without the whole protocol want bytes.
func TestP6_2GetEveryCut(t *testing.T) {
	whole := text(255, 3, 192, 33, 120, 121)
	want := []api.Errno{api.ErrEnd, api.ErrForm, api.ErrEnd, api.ErrEnd, api.OK, api.OK, api.OK} // 255 alone is 0x00ff
	for n := range len(whole) + 1 {
		proto, rest, e := Get(whole[:n])
		if e != want[n] {
			t.Errorf("Get(%v): %v", []byte(whole[:n]), e)
		}
		if e == api.OK && (proto != 0xc021 || rest != "xy"[:n-4]) || e != api.OK && (proto != 0 || rest != "") {
			t.Errorf("Get(%v) = %#04x, %q", []byte(whole[:n]), proto, rest)
		}
	}
}

// TestP6_3Inverse: what was put, with each protocol and each value of Comp, is got again.
func TestP6_3Inverse(t *testing.T) {
	for _, proto := range protocols() {
		for _, c := range comps() {
			for _, s := range []string{"", "x", "\xff\x03\x21", "\x03\xff", "\x00\x21"} {
				sent, e := Put(proto, s, c)
				if e != api.OK {
					t.Fatalf("Put(%#04x, %q, %v): %v", proto, s, c, e)
				}
				if got, rest, e := Get(sent); got != proto || rest != s || e != api.OK {
					t.Fatalf("Get(Put(%#04x, %q, %v)) = %#04x, %q, %v", proto, s, c, got, rest, e)
				}
			}
		}
	}
}

// TestP6_3InversePayloads: the same with every payload, where what goes ahead of it is long and short.
func TestP6_3InversePayloads(t *testing.T) {
	for _, proto := range []uint16{api.ProtoIp, api.ProtoIpcp, api.ProtoLcp, api.ProtoPap, api.ProtoChap, 0x0001, 0x0003, 0x00fd, 0xfeff} {
		for _, c := range comps() {
			for _, s := range payloads() {
				sent, e := Put(proto, s, c)
				if e != api.OK {
					t.Fatalf("Put(%#04x, %.20q, %v): %v", proto, s, c, e)
				}
				if got, rest, e := Get(sent); got != proto || rest != s || e != api.OK {
					t.Fatalf("Get(Put(%#04x, %.20q, %v)) = %#04x, %.20q, %v", proto, s, c, got, rest, e)
				}
			}
		}
	}
}

// TestP6_3GotIsPut: what Get returns of any bytes, put without compression, is got again.
func TestP6_3GotIsPut(t *testing.T) {
	taken := 0
	check := func(s string) {
		proto, rest, e := Get(s)
		if e != api.OK {
			return
		}
		taken++
		plain, e := Put(proto, rest, api.Comp{})
		if want := text(255, 3, byte(proto>>8), byte(proto&255)) + rest; plain != want || e != api.OK {
			t.Fatalf("Put of Get(%v) = %v, %v, want %v", []byte(s), []byte(plain), e, []byte(want))
		}
		if again, same, e := Get(plain); again != proto || same != rest || e != api.OK {
			t.Fatalf("Get(%v) = %#04x, %q, and again %#04x, %q, %v", []byte(s), proto, rest, again, same, e)
		}
	}
	fronts := []string{"", "\xff\x03", "\xff\x03\x21"}
	for first := range 256 {
		for second := range 256 {
			for _, front := range fronts {
				check(front + text(byte(first), byte(second)))
				check(front + text(byte(first), byte(second)) + "\xff\x03")
			}
		}
	}
	if taken == 0 {
		t.Error("nothing was got")
	}
}
