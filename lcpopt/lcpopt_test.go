package lcpopt

import (
	"slices"
	"strings"
	"testing"

	"halyard/api"
)

// The data of OptAuth: PAP's protocol; CHAP's, and MD5's byte.
const (
	pap  = "\xc0\x23"
	chap = "\xc2\x23\x05"
)

// six are the types of LCP's options, ascending.
func six() []uint8 { return []uint8{1, 2, 3, 5, 7, 8} }

// opt is an option with this type and this data.
func opt(t uint8, data string) api.Opt { return api.Opt{Type: t, Data: data} }

// text is these bytes as a string.
func text(l ...byte) string { return string(l) }

// same reports whether two lists are, option by option, the same.
func same(a, b []api.Opt) bool { return slices.Equal(a, b) }

// isKnown is the chapter's words on which types there are.
func isKnown(t uint8) bool { return slices.Contains(six(), t) }

// isGood is the chapter's words on which options are valid.
func isGood(o api.Opt) bool {
	switch o.Type {
	case 1:
		return len(o.Data) == 2
	case 2, 5:
		return len(o.Data) == 4
	case 3:
		return o.Data == pap || o.Data == chap
	case 7, 8:
		return o.Data == ""
	}
	return false
}

// number is that of all bytes of s, the highest first.
func number(s string) uint32 {
	v := uint32(0)
	for _, b := range []byte(s) {
		v = v*256 + uint32(b)
	}
	return v
}

// four is the bytes of v, the highest first.
func four(v uint32) string { return text(byte(v>>24), byte(v>>16), byte(v>>8), byte(v)) }

// toPut is the chapter's words on Put, one after the other.
func toPut(x api.Lcp) ([]api.Opt, api.Errno) {
	var l []api.Opt
	bad := false
	if x.HasMru {
		l = append(l, opt(1, four(uint32(x.Mru))[2:]))
	} else if x.Mru != 0 {
		bad = true
	}
	if x.HasAccm {
		l = append(l, opt(2, four(x.Accm)))
	} else if x.Accm != 0 {
		bad = true
	}
	switch x.Auth {
	case 0:
	case 1:
		l = append(l, opt(3, pap))
	case 2:
		l = append(l, opt(3, chap))
	default:
		bad = true
	}
	if x.HasMagic {
		l = append(l, opt(5, four(x.Magic)))
	} else if x.Magic != 0 {
		bad = true
	}
	if x.Pfc {
		l = append(l, opt(7, ""))
	}
	if x.Acfc {
		l = append(l, opt(8, ""))
	}
	if bad {
		return nil, api.ErrArg
	}
	return l, api.OK
}

// toGet is the chapter's words on Get, one after the other.
func toGet(l []api.Opt) (api.Lcp, []api.Opt, api.Errno) {
	var x api.Lcp
	var odd []api.Opt
	for i, o := range l {
		if !isGood(o) {
			odd = append(odd, o)
			continue
		}
		for _, other := range l[:i] {
			if other.Type == o.Type && isGood(other) {
				return api.Lcp{}, nil, api.ErrHave
			}
		}
		switch o.Type {
		case 1:
			x.HasMru, x.Mru = true, uint16(number(o.Data))
		case 2:
			x.HasAccm, x.Accm = true, number(o.Data)
		case 3:
			x.Auth = uint8(len(o.Data) - 1) // 1: two bytes; 2: three
		case 5:
			x.HasMagic, x.Magic = true, number(o.Data)
		case 7:
			x.Pfc = true
		case 8:
			x.Acfc = true
		}
	}
	return x, odd, api.OK
}

// checkGood holds Good of o against the chapter's words.
func checkGood(t *testing.T, o api.Opt) {
	t.Helper()
	if got := Good(o); got != isGood(o) {
		t.Fatalf("Good(%d with %.40q, %d bytes) = %v", o.Type, o.Data, len(o.Data), got)
	}
}

// checkPut holds Put of x against the chapter's words.
func checkPut(t *testing.T, x api.Lcp) {
	t.Helper()
	want, wantErr := toPut(x)
	if l, e := Put(x); !same(l, want) || e != wantErr {
		t.Fatalf("Put(%+v) = %q, %v, want %q, %v", x, l, e, want, wantErr)
	}
}

// checkGet holds Get of l against the chapter's words.
func checkGet(t *testing.T, l []api.Opt) {
	t.Helper()
	want, wantOdd, wantErr := toGet(l)
	if x, odd, e := Get(l...); x != want || !same(odd, wantOdd) || e != wantErr {
		t.Fatalf("Get(%.200q) = %+v, %.200q, %v, want %+v, %.200q, %v", l, x, odd, e, want, wantOdd, wantErr)
	}
}

// sayings are those of which each option is present or not, with numbers 0, 1, the greatest, and some whose bytes all differ.
func sayings() []api.Lcp {
	var l []api.Lcp
	for bits := range 32 {
		has := func(n int) bool { return bits>>n&1 == 1 }
		for auth := range uint8(3) {
			for _, v := range []uint32{0, 1, 0xffffffff, 0x01020304, 0x80000000, 0xff00} {
				x := api.Lcp{HasMru: has(0), HasAccm: has(1), Auth: auth, HasMagic: has(2), Pfc: has(3), Acfc: has(4)}
				if x.HasMru {
					x.Mru = uint16(v)
				}
				if x.HasAccm {
					x.Accm = v
				}
				if x.HasMagic {
					x.Magic = ^v
				}
				l = append(l, x)
			}
		}
	}
	return l
}

// orders calls f with the options in each order that there is.
func orders(l []api.Opt, f func([]api.Opt)) {
	var grow func(front, left []api.Opt)
	grow = func(front, left []api.Opt) {
		if len(left) == 0 {
			f(front)
			return
		}
		for i := range left {
			grow(append(slices.Clone(front), left[i]), slices.Concat(left[:i], left[i+1:]))
		}
	}
	grow(nil, l)
}

// all is one valid option of each type.
func all() []api.Opt {
	return []api.Opt{opt(1, "\x05\xdc"), opt(2, "\x00\x0a\x00\x00"), opt(3, chap), opt(5, "\x01\x02\x03\x04"), opt(7, ""), opt(8, "")}
}

// whole is what all says.
func whole() api.Lcp {
	return api.Lcp{HasMru: true, Mru: 1500, HasAccm: true, Accm: 0xa0000, Auth: api.AuthChap, HasMagic: true, Magic: 0x01020304, Pfc: true, Acfc: true}
}

// mixed are options valid and not, two of a type and more, of types of the six and others.
func mixed() []api.Opt {
	return []api.Opt{
		opt(1, "\x05\xdc"), opt(1, "\x00\x00"), opt(1, "\x05"),
		opt(2, "\x00\x00\x00\x00"), opt(2, ""),
		opt(3, pap), opt(3, chap), opt(3, "\xc2\x23\x06"), opt(3, "\xc2\x23"),
		opt(5, "\xff\xff\xff\xff"), opt(5, "\xff\xff\xff"),
		opt(7, ""), opt(7, "\x00"),
		opt(8, ""),
		opt(4, "\x05\xdc"), opt(0, ""),
	}
}

// TestP9_1Known: every type.
func TestP9_1Known(t *testing.T) {
	known := 0
	for k := range 256 {
		if got := Known(uint8(k)); got != isKnown(uint8(k)) {
			t.Errorf("Known(%d) = %v", k, got)
		}
		if Known(uint8(k)) {
			known++
		}
	}
	if known != 6 {
		t.Errorf("%d types are known", known)
	}
	for _, k := range []uint8{api.OptMru, api.OptAccm, api.OptAuth, api.OptMagic, api.OptPfc, api.OptAcfc} {
		if !Known(k) {
			t.Errorf("Known(%d) is false", k)
		}
	}
}

// TestP9_1Good: valid options, and such as are nearly.
func TestP9_1Good(t *testing.T) {
	for _, c := range []struct {
		o    api.Opt
		want bool
	}{
		{opt(1, "\x05\xdc"), true},
		{opt(1, "\x00\x00"), true}, // valid, whatever the number
		{opt(1, "\xff\xff"), true},
		{opt(1, ""), false},
		{opt(1, "\x05"), false},
		{opt(1, "\x00\x05\xdc"), false},
		{opt(1, "\x00\x00\x05\xdc"), false},
		{opt(2, "\x00\x00\x00\x00"), true},
		{opt(2, "\xff\xff\xff\xff"), true},
		{opt(2, ""), false},
		{opt(2, "\x00\x00"), false},
		{opt(2, "\x00\x00\x00"), false},
		{opt(2, "\x00\x00\x00\x00\x00"), false},
		{opt(3, "\xc0\x23"), true}, // the chapter's examples
		{opt(3, "\xc0\x22"), false},
		{opt(3, "\xc2\x23\x05"), true},
		{opt(3, ""), false},
		{opt(3, "\xc0"), false},
		{opt(3, "\xc2"), false},
		{opt(3, "\xc2\x23"), false},
		{opt(3, "\xc2\x23\x04"), false},
		{opt(3, "\xc2\x23\x06"), false},
		{opt(3, "\xc2\x23\x80"), false},
		{opt(3, "\xc2\x23\x05\x00"), false},
		{opt(3, "\xc2\x23\x05\x05"), false},
		{opt(3, "\xc0\x23\x05"), false},
		{opt(3, "\xc0\x23\x00"), false},
		{opt(3, "\x23\xc0"), false},
		{opt(3, "\xc0\x25"), false},
		{opt(3, "\xc0\x21"), false},
		{opt(3, "\xc0\x21\x05"), false},
		{opt(3, "\x05\xc2\x23"), false},
		{opt(5, "\x00\x00\x00\x00"), true},
		{opt(5, "\xff\xff\xff\xff"), true},
		{opt(5, ""), false},
		{opt(5, "\x01\x02\x03"), false},
		{opt(5, "\x01\x02\x03\x04\x05"), false},
		{opt(7, ""), true},
		{opt(7, "\x00"), false},
		{opt(7, "\x00\x00"), false},
		{opt(8, ""), true},
		{opt(8, "\x00"), false},
		{opt(8, "\x01\x02\x03\x04"), false},
		{opt(0, ""), false}, // none of the six, with data that would be one's
		{opt(4, ""), false},
		{opt(4, "\x05\xdc"), false},
		{opt(4, pap), false},
		{opt(4, chap), false},
		{opt(4, "\x01\x02\x03\x04"), false},
		{opt(6, "\x01\x02\x03\x04"), false},
		{opt(6, ""), false},
		{opt(9, ""), false},
		{opt(255, ""), false},
		{opt(131, pap), false}, // 3, but for the highest bit
	} {
		if got := Good(c.o); got != c.want {
			t.Errorf("Good(%d with %q) = %v", c.o.Type, c.o.Data, got)
		}
	}
}

// TestP9_1GoodEvery: every type with data of every length, of bytes of several kinds.
func TestP9_1GoodEvery(t *testing.T) {
	for k := range 256 {
		for n := range 260 {
			for _, b := range []string{"\x00", "\x05", "\xff"} {
				checkGood(t, opt(uint8(k), strings.Repeat(b, n)))
			}
			long := strings.Repeat("\x00", n)
			for _, front := range []string{pap, chap, chap[:2]} {
				checkGood(t, opt(uint8(k), front+long))
				checkGood(t, opt(uint8(k), long+front))
			}
		}
	}
	for _, k := range six() {
		for _, n := range []int{65534, 65536, 65538, 65540} { // a length that is another one modulo 2^16
			checkGood(t, opt(k, strings.Repeat("\x00", n)))
		}
	}
}

// TestP9_1GoodAuth: OptAuth with every data of none, one and two bytes; behind PAP's protocol, CHAP's and others every byte.
func TestP9_1GoodAuth(t *testing.T) {
	good := 0
	check := func(data string) {
		t.Helper()
		checkGood(t, opt(3, data))
		if Good(opt(3, data)) {
			good++
		}
	}
	check("")
	for a := range 256 {
		check(text(byte(a)))
		for b := range 256 {
			check(text(byte(a), byte(b)))
		}
		for _, front := range []string{pap, chap[:2], "\xc0\x21", "\xc2\x22", "\xc1\x23", "\x00\x00", "\x80\x21"} {
			check(front + text(byte(a)))
		}
		check(pap + text(5, byte(a)))
		check(chap + text(byte(a)))
	}
	if good != 2 {
		t.Errorf("%d of the data are valid", good)
	}
}

// TestP9_1Put: the chapter's example, no option, each one alone, all; numbers 0, 1, the greatest.
func TestP9_1Put(t *testing.T) {
	for _, c := range []struct {
		x    api.Lcp
		want []api.Opt
	}{
		{api.Lcp{}, nil},
		{api.Lcp{HasMru: true, Mru: 1500, Pfc: true}, []api.Opt{opt(1, text(5, 220)), opt(7, "")}},
		{api.Lcp{HasMru: true}, []api.Opt{opt(1, "\x00\x00")}}, // present, and yet 0
		{api.Lcp{HasMru: true, Mru: 1}, []api.Opt{opt(1, "\x00\x01")}},
		{api.Lcp{HasMru: true, Mru: 0xffff}, []api.Opt{opt(1, "\xff\xff")}},
		{api.Lcp{HasMru: true, Mru: 0x1234}, []api.Opt{opt(1, "\x12\x34")}},
		{api.Lcp{HasAccm: true}, []api.Opt{opt(2, "\x00\x00\x00\x00")}},
		{api.Lcp{HasAccm: true, Accm: 1}, []api.Opt{opt(2, "\x00\x00\x00\x01")}},
		{api.Lcp{HasAccm: true, Accm: 0xffffffff}, []api.Opt{opt(2, "\xff\xff\xff\xff")}},
		{api.Lcp{HasAccm: true, Accm: 0x12345678}, []api.Opt{opt(2, "\x12\x34\x56\x78")}},
		{api.Lcp{Auth: api.AuthPap}, []api.Opt{opt(3, text(192, 35))}},
		{api.Lcp{Auth: api.AuthChap}, []api.Opt{opt(3, text(194, 35, 5))}},
		{api.Lcp{HasMagic: true}, []api.Opt{opt(5, "\x00\x00\x00\x00")}},
		{api.Lcp{HasMagic: true, Magic: 1}, []api.Opt{opt(5, "\x00\x00\x00\x01")}},
		{api.Lcp{HasMagic: true, Magic: 0xffffffff}, []api.Opt{opt(5, "\xff\xff\xff\xff")}},
		{api.Lcp{HasMagic: true, Magic: 0x12345678}, []api.Opt{opt(5, "\x12\x34\x56\x78")}},
		{api.Lcp{Pfc: true}, []api.Opt{opt(7, "")}},
		{api.Lcp{Acfc: true}, []api.Opt{opt(8, "")}},
		{api.Lcp{Pfc: true, Acfc: true}, []api.Opt{opt(7, ""), opt(8, "")}},
		{whole(), all()},
	} {
		if l, e := Put(c.x); !same(l, c.want) || e != api.OK {
			t.Errorf("Put(%+v) = %q, %v, want %q", c.x, l, e, c.want)
		}
	}
}

// TestP9_1PutEvery: each option present or not; the same list each time, ascending (R6).
func TestP9_1PutEvery(t *testing.T) {
	for _, x := range sayings() {
		for range 8 {
			checkPut(t, x)
		}
		l, _ := Put(x)
		for i, o := range l {
			if !Good(o) || i > 0 && l[i-1].Type >= o.Type {
				t.Errorf("Put(%+v) = %q: at %d", x, l, i)
			}
		}
	}
}

// TestP9_1PutArg: an Auth that is none of the three, a number for an option that is not present; with nothing beside the error (R2).
func TestP9_1PutArg(t *testing.T) {
	check := func(x api.Lcp) {
		t.Helper()
		if l, e := Put(x); len(l) != 0 || e != api.ErrArg {
			t.Errorf("Put(%+v) = %q, %v", x, l, e)
		}
	}
	for auth := 3; auth < 256; auth++ {
		check(api.Lcp{Auth: uint8(auth)})
		x := whole()
		x.Auth = uint8(auth)
		check(x)
	}
	for n := range 32 {
		v := uint32(1) << n
		if n < 16 {
			check(api.Lcp{Mru: uint16(v)})
		}
		check(api.Lcp{Accm: v})
		check(api.Lcp{Magic: v})
	}
	for _, x := range sayings() {
		if y := x; !y.HasMru {
			y.Mru = 1500
			check(y)
		}
		if y := x; !y.HasAccm {
			y.Accm = 0xffffffff
			check(y)
		}
		if y := x; !y.HasMagic {
			y.Magic = 1
			check(y)
		}
		if y := x; y.Auth == api.AuthNone {
			y.Auth = 3
			check(y)
		}
	}
	check(api.Lcp{Mru: 1, Accm: 1, Auth: 3, Magic: 1})
}

// TestP9_1PutNew: what Put returns is the caller's (R5).
func TestP9_1PutNew(t *testing.T) {
	first, _ := Put(whole())
	second, _ := Put(whole())
	for i := range first {
		first[i] = opt(0, "changed")
	}
	third, _ := Put(whole())
	if !same(second, all()) || !same(third, all()) {
		t.Errorf("Put shares its results: %q, %q", second, third)
	}
}

// TestP9_2Get: the chapter's examples, no option, valid ones, others, both mixed.
func TestP9_2Get(t *testing.T) {
	for _, c := range []struct {
		l    []api.Opt
		want api.Lcp
		odd  []api.Opt
	}{
		{nil, api.Lcp{}, nil},
		{[]api.Opt{}, api.Lcp{}, nil},
		{[]api.Opt{opt(3, text(192, 35))}, api.Lcp{Auth: api.AuthPap}, nil},
		{[]api.Opt{opt(3, text(192, 34))}, api.Lcp{}, []api.Opt{opt(3, text(192, 34))}},
		{[]api.Opt{opt(3, text(194, 35, 5))}, api.Lcp{Auth: api.AuthChap}, nil},
		{[]api.Opt{opt(1, text(5, 220)), opt(7, "")}, api.Lcp{HasMru: true, Mru: 1500, Pfc: true}, nil},
		{[]api.Opt{opt(1, "\x00\x00")}, api.Lcp{HasMru: true}, nil}, // it says 0
		{[]api.Opt{opt(1, "\xff\xff")}, api.Lcp{HasMru: true, Mru: 0xffff}, nil},
		{[]api.Opt{opt(2, "\x00\x00\x00\x00")}, api.Lcp{HasAccm: true}, nil},
		{[]api.Opt{opt(2, "\x12\x34\x56\x78")}, api.Lcp{HasAccm: true, Accm: 0x12345678}, nil},
		{[]api.Opt{opt(5, "\x00\x00\x00\x00")}, api.Lcp{HasMagic: true}, nil},
		{[]api.Opt{opt(5, "\xff\xff\xff\xff")}, api.Lcp{HasMagic: true, Magic: 0xffffffff}, nil},
		{[]api.Opt{opt(7, "")}, api.Lcp{Pfc: true}, nil},
		{[]api.Opt{opt(8, "")}, api.Lcp{Acfc: true}, nil},
		{[]api.Opt{opt(8, ""), opt(7, "")}, api.Lcp{Pfc: true, Acfc: true}, nil},
		{all(), whole(), nil},
		{[]api.Opt{opt(1, "\x05")}, api.Lcp{}, []api.Opt{opt(1, "\x05")}}, // nothing of it is said
		{[]api.Opt{opt(1, "\x05\xdc\x00")}, api.Lcp{}, []api.Opt{opt(1, "\x05\xdc\x00")}},
		{[]api.Opt{opt(2, "\x01\x02\x03")}, api.Lcp{}, []api.Opt{opt(2, "\x01\x02\x03")}},
		{[]api.Opt{opt(5, "\x01\x02\x03\x04\x05")}, api.Lcp{}, []api.Opt{opt(5, "\x01\x02\x03\x04\x05")}},
		{[]api.Opt{opt(7, "\x00")}, api.Lcp{}, []api.Opt{opt(7, "\x00")}},
		{[]api.Opt{opt(8, "\x01")}, api.Lcp{}, []api.Opt{opt(8, "\x01")}},
		{[]api.Opt{opt(4, "\x05\xdc")}, api.Lcp{}, []api.Opt{opt(4, "\x05\xdc")}},
		{[]api.Opt{opt(0, "")}, api.Lcp{}, []api.Opt{opt(0, "")}},
		{
			[]api.Opt{opt(9, "z"), opt(7, ""), opt(4, "y"), opt(1, "\x00\x40"), opt(3, pap+"\x05"), opt(9, "z"), opt(0, "")},
			api.Lcp{HasMru: true, Mru: 64, Pfc: true},
			[]api.Opt{opt(9, "z"), opt(4, "y"), opt(3, pap+"\x05"), opt(9, "z"), opt(0, "")}, // in order, twice what is there twice
		},
		{ // of one type one is valid: first, last, in the middle
			[]api.Opt{opt(1, "\x05\xdc"), opt(1, "\x05"), opt(5, ""), opt(5, "\x00\x00\x00\x07"), opt(3, "\xc2\x23"), opt(3, chap), opt(3, "\xc0\x21")},
			api.Lcp{HasMru: true, Mru: 1500, Auth: api.AuthChap, HasMagic: true, Magic: 7},
			[]api.Opt{opt(1, "\x05"), opt(5, ""), opt(3, "\xc2\x23"), opt(3, "\xc0\x21")},
		},
		{ // none is
			[]api.Opt{opt(7, "\x00"), opt(7, "\x00"), opt(1, ""), opt(1, "\x00\x00\x00")},
			api.Lcp{},
			[]api.Opt{opt(7, "\x00"), opt(7, "\x00"), opt(1, ""), opt(1, "\x00\x00\x00")},
		},
	} {
		if x, odd, e := Get(c.l...); x != c.want || !same(odd, c.odd) || e != api.OK {
			t.Errorf("Get(%q) = %+v, %q, %v, want %+v, %q", c.l, x, odd, e, c.want, c.odd)
		}
	}
	if x, odd, e := Get(); x != (api.Lcp{}) || len(odd) != 0 || e != api.OK {
		t.Errorf("Get() = %+v, %q, %v", x, odd, e)
	}
}

// TestP9_2GetHave: two valid ones of one type, alike or not, side by side or with others between; with nothing beside the error (R2).
func TestP9_2GetHave(t *testing.T) {
	twice := [][2]api.Opt{
		{opt(1, "\x05\xdc"), opt(1, "\x05\xdc")},
		{opt(1, "\x05\xdc"), opt(1, "\x00\x40")},
		{opt(1, "\x00\x00"), opt(1, "\x00\x00")}, // there, even if what they say is 0
		{opt(2, "\x00\x00\x00\x00"), opt(2, "\x00\x00\x00\x00")},
		{opt(2, "\x00\x00\x00\x00"), opt(2, "\xff\xff\xff\xff")},
		{opt(3, pap), opt(3, pap)},
		{opt(3, chap), opt(3, chap)},
		{opt(3, pap), opt(3, chap)},
		{opt(5, "\x00\x00\x00\x00"), opt(5, "\x00\x00\x00\x00")},
		{opt(5, "\x00\x00\x00\x01"), opt(5, "\x00\x00\x00\x02")},
		{opt(7, ""), opt(7, "")},
		{opt(8, ""), opt(8, "")},
	}
	odds := [][]api.Opt{nil, {opt(4, "")}, {opt(0, "\x05\xdc"), opt(255, "")}, {opt(1, "\x05"), opt(3, "\xc2\x23")}}
	for _, two := range twice {
		others := slices.DeleteFunc(all(), func(o api.Opt) bool { return o.Type == two[0].Type })
		for _, odd := range append(odds, others) {
			for _, l := range [][]api.Opt{
				slices.Concat(two[:1], odd, two[1:]),
				slices.Concat(two[1:], odd, two[:1]),
				slices.Concat(odd, two[:]),
				slices.Concat(two[:], odd),
				slices.Concat(two[:1], two[:1], odd, two[1:], two[1:]),
				slices.Concat(two[:], slices.Repeat([]api.Opt{opt(9, "")}, 300)),
				slices.Concat(two[:1], slices.Repeat([]api.Opt{opt(9, "")}, 300), two[1:]),
			} {
				if x, odd, e := Get(l...); x != (api.Lcp{}) || len(odd) != 0 || e != api.ErrHave {
					t.Errorf("Get(%.200q) = %+v, %.200q, %v", l, x, odd, e)
				}
			}
		}
	}
}

// TestP9_2GetOrders: all six in each order, alone, and with two others among them.
func TestP9_2GetOrders(t *testing.T) {
	orders(all(), func(l []api.Opt) {
		if x, odd, e := Get(l...); x != whole() || len(odd) != 0 || e != api.OK {
			t.Fatalf("Get(%q) = %+v, %q, %v", l, x, odd, e)
		}
	})
	orders(append(all(), opt(3, "\xc2\x23\x06"), opt(6, "")), func(l []api.Opt) { checkGet(t, l) })
}

// TestP9_2GetEvery: all lists of up to four options, some of them valid, of one type, or of none of the six.
func TestP9_2GetEvery(t *testing.T) {
	var grow func(l []api.Opt, left int)
	grow = func(l []api.Opt, left int) {
		checkGet(t, l)
		for _, o := range mixed() {
			if left > 0 {
				grow(append(slices.Clone(l), o), left-1)
			}
		}
	}
	grow(nil, 4)
}

// TestP9_2GetTypes: one option of every type, with data of the lengths that the six have; many of them (no limit is set on these).
func TestP9_2GetTypes(t *testing.T) {
	for _, data := range []string{"", "\x05", "\x05\xdc", pap, chap, "\x01\x02\x03\x04", "\x00\x00\x00\x00\x00"} {
		var l []api.Opt
		for k := range 256 {
			o := opt(uint8(k), data)
			l = append(l, o)
			checkGet(t, []api.Opt{o})
			if _, odd, _ := Get(o); (len(odd) == 0) != Good(o) {
				t.Errorf("Get(%d with %q): odd %q, and yet Good is %v", k, data, odd, Good(o))
			}
		}
		checkGet(t, l)
		checkGet(t, slices.Concat(l, l, l))
		slices.Reverse(l)
		checkGet(t, l)
	}
	for v := range 65536 {
		checkGet(t, []api.Opt{opt(1, four(uint32(v))[2:])})
	}
	long := slices.Repeat([]api.Opt{opt(1, strings.Repeat("\x00", 1000))}, 1000)
	checkGet(t, append(long, all()...))
}

// TestP9_2GetNew: what Get returns shares nothing with the list that was handed in, nor with another result (R5).
func TestP9_2GetNew(t *testing.T) {
	for _, l := range [][]api.Opt{
		{opt(4, "a"), opt(6, "b"), opt(9, "c")}, // all of them odd
		{opt(7, ""), opt(4, "a"), opt(6, "b")},
		{opt(4, "a"), opt(6, "b"), opt(7, "")},
	} {
		was := slices.Clone(l)
		_, want, _ := toGet(l)
		_, first, _ := Get(l...)
		_, second, _ := Get(l...)
		for i := range first {
			first[i] = opt(0, "changed")
		}
		_ = append(first, opt(0, "more"))
		if !same(l, was) {
			t.Errorf("Get shares its list: %q", l)
		}
		if !same(second, want) {
			t.Errorf("Get shares its results: %q", second)
		}
	}
}

// TestP9_2ListsStay: the lists that are handed in stay as they were (R5), and what stands behind them in their memory too.
func TestP9_2ListsStay(t *testing.T) {
	backwards := all()
	slices.Reverse(backwards)
	for _, l := range [][]api.Opt{nil, all(), backwards, mixed(), {opt(7, ""), opt(7, "")}, {opt(255, ""), opt(0, ""), opt(7, "")}} {
		memory := append(slices.Clone(l), opt(77, "spare"), opt(78, "spare"))
		was := slices.Clone(memory)
		Get(memory[:len(l)]...)
		if !same(memory, was) {
			t.Errorf("%d options are changed: %q", len(l), memory)
		}
	}
}

// TestP9_3Inverse: what was put is got again, with no odd options.
func TestP9_3Inverse(t *testing.T) {
	check := func(x api.Lcp) {
		t.Helper()
		l, e := Put(x)
		if e != api.OK {
			t.Fatalf("Put(%+v): %v", x, e)
		}
		if got, odd, e := Get(l...); got != x || len(odd) != 0 || e != api.OK {
			t.Fatalf("Get(Put(%+v)) = %+v, %q, %v", x, got, odd, e)
		}
	}
	for _, x := range sayings() {
		check(x)
	}
	for v := range 65536 {
		check(api.Lcp{HasMru: true, Mru: uint16(v)})
	}
	for n := range 32 {
		v := uint32(1) << n
		check(api.Lcp{HasAccm: true, Accm: v, HasMagic: true, Magic: v - 1})
		check(api.Lcp{HasAccm: true, Accm: ^v, HasMagic: true, Magic: v})
	}
}

// TestP9_3GotIsPut: what is got without odd options is put as those options, in ascending order of types; of any list, what its valid options say is put as these.
func TestP9_3GotIsPut(t *testing.T) {
	ascending := func(l []api.Opt) []api.Opt {
		var out []api.Opt
		for k := range 256 {
			for _, o := range l {
				if int(o.Type) == k && isGood(o) {
					out = append(out, o)
				}
			}
		}
		return out
	}
	got := 0
	check := func(l []api.Opt) {
		t.Helper()
		x, odd, e := Get(l...)
		if e != api.OK {
			return
		}
		if len(odd) == 0 {
			got++
		}
		if again, e := Put(x); !same(again, ascending(l)) || e != api.OK {
			t.Fatalf("Put(Get(%q)) = %q, %v", l, again, e)
		}
	}
	orders(all(), check)
	for _, x := range sayings() {
		l, _ := toPut(x)
		check(l)
		slices.Reverse(l)
		check(l)
	}
	for _, a := range mixed() {
		for _, b := range mixed() {
			for _, c := range mixed() {
				check([]api.Opt{a, b, c})
			}
		}
	}
	if got < 1000 {
		t.Errorf("only %d lists were got without odd options", got)
	}
}
