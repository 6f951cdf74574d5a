package ipcpopt

import (
	"slices"
	"strings"
	"testing"

	"halyard/api"
)

// three are the types of IPCP's options, in the order in which a list has them.
func three() []uint8 { return []uint8{3, 129, 131} }

// opt is an option with this type and this data.
func opt(t uint8, data string) api.Opt { return api.Opt{Type: t, Data: data} }

// same reports whether two lists are, option by option, the same.
func same(a, b []api.Opt) bool { return slices.Equal(a, b) }

// four is the bytes of v, the highest first.
func four(v uint32) string {
	return string([]byte{byte(v >> 24), byte(v >> 16), byte(v >> 8), byte(v)})
}

// number32 is that of all bytes of s, the highest first.
func number32(s string) uint32 {
	v := uint32(0)
	for _, b := range []byte(s) {
		v = v*256 + uint32(b)
	}
	return v
}

// isGood is the chapter's words on which options are valid.
func isGood(o api.Opt) bool { return slices.Contains(three(), o.Type) && len(o.Data) == 4 }

// toPut is the chapter's words on Put, one after the other.
func toPut(x api.Ipcp) ([]api.Opt, api.Errno) {
	if !x.HasAddr && x.Addr != 0 || !x.HasDns1 && x.Dns1 != 0 || !x.HasDns2 && x.Dns2 != 0 {
		return nil, api.ErrArg
	}
	var l []api.Opt
	if x.HasAddr {
		l = append(l, opt(3, four(x.Addr)))
	}
	if x.HasDns1 {
		l = append(l, opt(129, four(x.Dns1)))
	}
	if x.HasDns2 {
		l = append(l, opt(131, four(x.Dns2)))
	}
	return l, api.OK
}

// toGet is the chapter's words on Get, one after the other.
func toGet(l []api.Opt) (api.Ipcp, []api.Opt, api.Errno) {
	var x api.Ipcp
	var odd []api.Opt
	for i, o := range l {
		if !isGood(o) {
			odd = append(odd, o)
			continue
		}
		for _, other := range l[:i] {
			if other.Type == o.Type && isGood(other) {
				return api.Ipcp{}, nil, api.ErrHave
			}
		}
		switch o.Type {
		case 3:
			x.HasAddr, x.Addr = true, number32(o.Data)
		case 129:
			x.HasDns1, x.Dns1 = true, number32(o.Data)
		case 131:
			x.HasDns2, x.Dns2 = true, number32(o.Data)
		}
	}
	return x, odd, api.OK
}

// checkGood holds Good of o against the chapter's words.
func checkGood(t *testing.T, o api.Opt) {
	t.Helper()
	if got := Good(o); got != isGood(o) {
		t.Fatalf("Good(%d with %.40q, %d bytes) = %v", o.Type, o.Data, len(o.Data), got)
	}
}

// checkPut holds Put of x against the chapter's words.
func checkPut(t *testing.T, x api.Ipcp) {
	t.Helper()
	want, wantErr := toPut(x)
	if l, e := Put(x); !same(l, want) || e != wantErr {
		t.Fatalf("Put(%+v) = %q, %v, want %q, %v", x, l, e, want, wantErr)
	}
}

// checkGet holds Get of l against the chapter's words.
func checkGet(t *testing.T, l []api.Opt) {
	t.Helper()
	want, wantOdd, wantErr := toGet(l)
	if x, odd, e := Get(l...); x != want || !same(odd, wantOdd) || e != wantErr {
		t.Fatalf("Get(%.200q) = %+v, %.200q, %v, want %+v, %.200q, %v", l, x, odd, e, want, wantOdd, wantErr)
	}
}

// addresses are 0, 1, the greatest, single bits, and some whose bytes all differ.
func addresses() []uint32 {
	l := []uint32{0, 1, 0xffffffff, 0x01020304, 0x0a000001, 0xff00ff00}
	for n := range 32 {
		l = append(l, 1<<n)
	}
	return l
}

// sayings are those of which each option is present or not, with addresses that all differ from option to option.
func sayings() []api.Ipcp {
	var l []api.Ipcp
	for bits := range 8 {
		for _, v := range addresses() {
			x := api.Ipcp{HasAddr: bits&1 != 0, HasDns1: bits&2 != 0, HasDns2: bits&4 != 0}
			if x.HasAddr {
				x.Addr = v
			}
			if x.HasDns1 {
				x.Dns1 = ^v
			}
			if x.HasDns2 {
				x.Dns2 = v + 7
			}
			l = append(l, x)
		}
	}
	return l
}

// orders calls f with the options in each order that there is.
func orders(l []api.Opt, f func([]api.Opt)) {
	var grow func(front, left []api.Opt)
	grow = func(front, left []api.Opt) {
		if len(left) == 0 {
			f(front)
			return
		}
		for i := range left {
			grow(append(slices.Clone(front), left[i]), slices.Concat(left[:i], left[i+1:]))
		}
	}
	grow(nil, l)
}

// all is one valid option of each type.
func all() []api.Opt {
	return []api.Opt{opt(3, "\x0a\x00\x00\x01"), opt(129, "\x01\x02\x03\x04"), opt(131, "\xff\xfe\xfd\xfc")}
}

// whole is what all says.
func whole() api.Ipcp {
	return api.Ipcp{HasAddr: true, Addr: 0x0a000001, HasDns1: true, Dns1: 0x01020304, HasDns2: true, Dns2: 0xfffefdfc}
}

// mixed are options valid and not, two of a type and more, of types of the three and others.
func mixed() []api.Opt {
	return []api.Opt{
		opt(3, "\x0a\x00\x00\x01"), opt(3, "\x00\x00\x00\x00"), opt(3, "\x0a\x00\x00"), opt(3, ""),
		opt(129, "\x00\x00\x00\x00"), opt(129, "\x01\x02\x03\x04"), opt(129, "\x01\x02\x03\x04\x05"),
		opt(131, "\xff\xff\xff\xff"), opt(131, "\x00\x00\x00\x00"), opt(131, "\xff"),
		opt(1, "\x0a\x00\x00\x01"), opt(130, "\x00\x00\x00\x00"), opt(0, ""),
	}
}

// TestP10_1Good: each of the three types with data of lengths around four; others with data that would be one's.
func TestP10_1Good(t *testing.T) {
	for _, k := range []uint8{api.OptAddr, api.OptDns1, api.OptDns2} {
		for _, c := range []struct {
			data string
			want bool
		}{
			{"", false}, {"\x0a", false}, {"\x0a\x00", false}, {"\x0a\x00\x00", false},
			{"\x0a\x00\x00\x01", true}, {"\x00\x00\x00\x00", true}, {"\xff\xff\xff\xff", true}, {"abcd", true},
			{"\x0a\x00\x00\x01\x00", false}, {"\x00\x00\x00\x00\x00\x00", false}, {"\x0a\x00\x00\x01\x0a\x00\x00\x01", false},
			{"10.0.0.1", false}, {"é12", true}, {"é123", false}, // bytes count, not runes
		} {
			if got := Good(opt(k, c.data)); got != c.want {
				t.Errorf("Good(%d with %q) = %v", k, c.data, got)
			}
		}
	}
	for _, k := range []uint8{0, 1, 2, 4, 127, 128, 130, 132, 255} {
		for _, data := range []string{"", "\x0a\x00\x00\x01", "\x00\x00\x00\x00"} {
			if Good(opt(k, data)) {
				t.Errorf("Good(%d with %q) is true", k, data)
			}
		}
	}
}

// TestP10_1GoodEvery: every type with data of every length, of bytes of several kinds.
func TestP10_1GoodEvery(t *testing.T) {
	good := 0
	for k := range 256 {
		for n := range 260 {
			for _, b := range []string{"\x00", "\x01", "\x7f", "\xff"} {
				o := opt(uint8(k), strings.Repeat(b, n))
				checkGood(t, o)
				if Good(o) {
					good++
				}
			}
		}
		for _, n := range []int{65536, 65540} { // a length that is 0, or 4, modulo 2^8 and 2^16
			checkGood(t, opt(uint8(k), strings.Repeat("\x00", n)))
		}
	}
	if good != 3*4 {
		t.Errorf("%d are valid", good)
	}
}

// TestP10_1Put: no option, each one alone, two, all; addresses 0, 1 and the greatest.
func TestP10_1Put(t *testing.T) {
	for _, c := range []struct {
		x    api.Ipcp
		want []api.Opt
	}{
		{api.Ipcp{}, nil},
		{api.Ipcp{HasAddr: true}, []api.Opt{opt(3, "\x00\x00\x00\x00")}}, // present, and yet 0
		{api.Ipcp{HasAddr: true, Addr: 1}, []api.Opt{opt(3, "\x00\x00\x00\x01")}},
		{api.Ipcp{HasAddr: true, Addr: 0xffffffff}, []api.Opt{opt(3, "\xff\xff\xff\xff")}},
		{api.Ipcp{HasAddr: true, Addr: 0x0a000001}, []api.Opt{opt(3, "\x0a\x00\x00\x01")}},
		{api.Ipcp{HasDns1: true}, []api.Opt{opt(129, "\x00\x00\x00\x00")}},
		{api.Ipcp{HasDns1: true, Dns1: 1}, []api.Opt{opt(129, "\x00\x00\x00\x01")}},
		{api.Ipcp{HasDns1: true, Dns1: 0xffffffff}, []api.Opt{opt(129, "\xff\xff\xff\xff")}},
		{api.Ipcp{HasDns1: true, Dns1: 0x01020304}, []api.Opt{opt(129, "\x01\x02\x03\x04")}},
		{api.Ipcp{HasDns2: true}, []api.Opt{opt(131, "\x00\x00\x00\x00")}},
		{api.Ipcp{HasDns2: true, Dns2: 1}, []api.Opt{opt(131, "\x00\x00\x00\x01")}},
		{api.Ipcp{HasDns2: true, Dns2: 0xffffffff}, []api.Opt{opt(131, "\xff\xff\xff\xff")}},
		{api.Ipcp{HasDns2: true, Dns2: 0x80000000}, []api.Opt{opt(131, "\x80\x00\x00\x00")}},
		{api.Ipcp{HasAddr: true, HasDns2: true, Dns2: 5}, []api.Opt{opt(3, "\x00\x00\x00\x00"), opt(131, "\x00\x00\x00\x05")}},
		{api.Ipcp{HasDns1: true, Dns1: 6, HasDns2: true, Dns2: 5}, []api.Opt{opt(129, "\x00\x00\x00\x06"), opt(131, "\x00\x00\x00\x05")}},
		{whole(), all()},
	} {
		if l, e := Put(c.x); !same(l, c.want) || e != api.OK {
			t.Errorf("Put(%+v) = %q, %v, want %q", c.x, l, e, c.want)
		}
	}
}

// TestP10_1PutEvery: each option present or not; all of the list is valid, in the definition's order.
func TestP10_1PutEvery(t *testing.T) {
	for _, x := range sayings() {
		checkPut(t, x)
		l, _ := Put(x)
		for i, o := range l {
			if !Good(o) || i > 0 && l[i-1].Type >= o.Type {
				t.Errorf("Put(%+v) = %q: at %d", x, l, i)
			}
		}
	}
}

// TestP10_1PutArg: an address for an option that is not present, alone and among others; with nothing beside the error (R2).
func TestP10_1PutArg(t *testing.T) {
	check := func(x api.Ipcp) {
		t.Helper()
		if l, e := Put(x); len(l) != 0 || e != api.ErrArg {
			t.Errorf("Put(%+v) = %q, %v", x, l, e)
		}
	}
	for _, v := range addresses() {
		if v == 0 {
			continue
		}
		check(api.Ipcp{Addr: v})
		check(api.Ipcp{Dns1: v})
		check(api.Ipcp{Dns2: v})
		check(api.Ipcp{Addr: v, Dns1: v, Dns2: v})
		for _, x := range sayings() {
			if y := x; !y.HasAddr {
				y.Addr = v
				check(y)
			}
			if y := x; !y.HasDns1 {
				y.Dns1 = v
				check(y)
			}
			if y := x; !y.HasDns2 {
				y.Dns2 = v
				check(y)
			}
		}
	}
}

// TestP10_1PutNew: what Put returns is the caller's (R5).
func TestP10_1PutNew(t *testing.T) {
	first, _ := Put(whole())
	second, _ := Put(whole())
	for i := range first {
		first[i] = opt(0, "changed")
	}
	third, _ := Put(whole())
	if !same(second, all()) || !same(third, all()) {
		t.Errorf("Put shares its results: %q, %q", second, third)
	}
}

// TestP10_1Get: no option, valid ones, others, both mixed, two of one type of which one is valid, or none.
func TestP10_1Get(t *testing.T) {
	for _, c := range []struct {
		l    []api.Opt
		want api.Ipcp
		odd  []api.Opt
	}{
		{nil, api.Ipcp{}, nil},
		{[]api.Opt{}, api.Ipcp{}, nil},
		{[]api.Opt{opt(3, "\x00\x00\x00\x00")}, api.Ipcp{HasAddr: true}, nil}, // it says 0
		{[]api.Opt{opt(3, "\x0a\x00\x00\x01")}, api.Ipcp{HasAddr: true, Addr: 0x0a000001}, nil},
		{[]api.Opt{opt(129, "\x00\x00\x00\x00")}, api.Ipcp{HasDns1: true}, nil},
		{[]api.Opt{opt(129, "\x01\x02\x03\x04")}, api.Ipcp{HasDns1: true, Dns1: 0x01020304}, nil},
		{[]api.Opt{opt(131, "\x00\x00\x00\x00")}, api.Ipcp{HasDns2: true}, nil},
		{[]api.Opt{opt(131, "\xff\xff\xff\xff")}, api.Ipcp{HasDns2: true, Dns2: 0xffffffff}, nil},
		{all(), whole(), nil},
		{[]api.Opt{opt(131, "\x00\x00\x00\x02"), opt(3, "\x00\x00\x00\x01")}, api.Ipcp{HasAddr: true, Addr: 1, HasDns2: true, Dns2: 2}, nil},
		{[]api.Opt{opt(3, "\x0a\x00\x00")}, api.Ipcp{}, []api.Opt{opt(3, "\x0a\x00\x00")}}, // nothing of it is said
		{[]api.Opt{opt(129, "\x01\x02\x03\x04\x05")}, api.Ipcp{}, []api.Opt{opt(129, "\x01\x02\x03\x04\x05")}},
		{[]api.Opt{opt(131, "")}, api.Ipcp{}, []api.Opt{opt(131, "")}},
		{[]api.Opt{opt(1, "\x0a\x00\x00\x01")}, api.Ipcp{}, []api.Opt{opt(1, "\x0a\x00\x00\x01")}},
		{[]api.Opt{opt(0, "")}, api.Ipcp{}, []api.Opt{opt(0, "")}},
		{
			[]api.Opt{opt(9, "z"), opt(131, "\x00\x00\x00\x05"), opt(130, "\x00\x00\x00\x06"), opt(3, "\x0a\x00\x00\x01"), opt(129, "\x01"), opt(9, "z"), opt(0, "")},
			api.Ipcp{HasAddr: true, Addr: 0x0a000001, HasDns2: true, Dns2: 5},
			[]api.Opt{opt(9, "z"), opt(130, "\x00\x00\x00\x06"), opt(129, "\x01"), opt(9, "z"), opt(0, "")}, // in order, twice what is there twice
		},
		{ // of one type one is valid: first, last, in the middle
			[]api.Opt{opt(3, "\x00\x00\x00\x01"), opt(3, "\x00"), opt(129, ""), opt(129, "\x00\x00\x00\x02"), opt(131, "a"), opt(131, "\x00\x00\x00\x03"), opt(131, "b")},
			api.Ipcp{HasAddr: true, Addr: 1, HasDns1: true, Dns1: 2, HasDns2: true, Dns2: 3},
			[]api.Opt{opt(3, "\x00"), opt(129, ""), opt(131, "a"), opt(131, "b")},
		},
		{ // none is
			[]api.Opt{opt(3, ""), opt(3, ""), opt(129, "abc"), opt(129, "abcde"), opt(131, "a"), opt(131, "a")},
			api.Ipcp{},
			[]api.Opt{opt(3, ""), opt(3, ""), opt(129, "abc"), opt(129, "abcde"), opt(131, "a"), opt(131, "a")},
		},
	} {
		if x, odd, e := Get(c.l...); x != c.want || !same(odd, c.odd) || e != api.OK {
			t.Errorf("Get(%q) = %+v, %q, %v, want %+v, %q", c.l, x, odd, e, c.want, c.odd)
		}
	}
	if x, odd, e := Get(); x != (api.Ipcp{}) || len(odd) != 0 || e != api.OK {
		t.Errorf("Get() = %+v, %q, %v", x, odd, e)
	}
}

// TestP10_1GetHave: two valid ones of one type, alike or not, side by side or with others between; with nothing beside the error (R2).
func TestP10_1GetHave(t *testing.T) {
	for _, k := range three() {
		others := slices.DeleteFunc(all(), func(o api.Opt) bool { return o.Type == k })
		for _, two := range [][]api.Opt{
			{opt(k, "\x00\x00\x00\x00"), opt(k, "\x00\x00\x00\x00")}, // there, even if what they say is 0
			{opt(k, "\x0a\x00\x00\x01"), opt(k, "\x0a\x00\x00\x01")},
			{opt(k, "\x00\x00\x00\x00"), opt(k, "\xff\xff\xff\xff")},
		} {
			for _, odd := range [][]api.Opt{nil, others, {opt(4, "")}, {opt(k, "\x05"), opt(k, "")}, {opt(0, "abcd"), opt(255, "abcd")}} {
				for _, l := range [][]api.Opt{
					slices.Concat(two[:1], odd, two[1:]),
					slices.Concat(two[1:], odd, two[:1]),
					slices.Concat(odd, two),
					slices.Concat(two, odd),
					slices.Concat(two, odd, two),
					slices.Concat(two, slices.Repeat([]api.Opt{opt(9, "")}, 300)),
					slices.Concat(two[:1], slices.Repeat([]api.Opt{opt(9, "")}, 300), two[1:]),
				} {
					if x, odd, e := Get(l...); x != (api.Ipcp{}) || len(odd) != 0 || e != api.ErrHave {
						t.Errorf("Get(%.200q) = %+v, %.200q, %v", l, x, odd, e)
					}
				}
			}
		}
	}
}

// TestP10_1GetOrders: all three in each order, alone, and with others among them.
func TestP10_1GetOrders(t *testing.T) {
	orders(all(), func(l []api.Opt) {
		if x, odd, e := Get(l...); x != whole() || len(odd) != 0 || e != api.OK {
			t.Fatalf("Get(%q) = %+v, %q, %v", l, x, odd, e)
		}
	})
	orders(append(all(), opt(3, "abc"), opt(129, ""), opt(131, "abcde"), opt(130, "abcd")), func(l []api.Opt) { checkGet(t, l) })
}

// TestP10_1GetEvery: all lists of up to four options, some of them valid, of one type, or of none of the three.
func TestP10_1GetEvery(t *testing.T) {
	var grow func(l []api.Opt, left int)
	grow = func(l []api.Opt, left int) {
		checkGet(t, l)
		for _, o := range mixed() {
			if left > 0 {
				grow(append(slices.Clone(l), o), left-1)
			}
		}
	}
	grow(nil, 4)
}

// TestP10_1GetTypes: one option of every type, with data of lengths around four; many of them (no limit is set on these).
func TestP10_1GetTypes(t *testing.T) {
	for _, data := range []string{"", "a", "abc", "abcd", "\x00\x00\x00\x00", "abcde", strings.Repeat("abcd", 64)} {
		var l []api.Opt
		for k := range 256 {
			o := opt(uint8(k), data)
			l = append(l, o)
			checkGet(t, []api.Opt{o})
			if _, odd, _ := Get(o); (len(odd) == 0) != Good(o) {
				t.Errorf("Get(%d with %q): odd %q, and yet Good is %v", k, data, odd, Good(o))
			}
		}
		checkGet(t, l)
		checkGet(t, slices.Concat(l, l, l))
		slices.Reverse(l)
		checkGet(t, l)
	}
	for _, k := range three() {
		for _, v := range addresses() {
			checkGet(t, []api.Opt{opt(k, four(v))})
		}
	}
	long := slices.Repeat([]api.Opt{opt(3, strings.Repeat("\x00", 1000))}, 1000)
	checkGet(t, append(long, all()...))
}

// TestP10_1GetNew: what Get returns shares nothing with the list that was handed in, nor with another result (R5).
func TestP10_1GetNew(t *testing.T) {
	for _, l := range [][]api.Opt{
		{opt(4, "a"), opt(6, "b"), opt(9, "c")}, // all of them odd
		{opt(3, "abcd"), opt(4, "a"), opt(6, "b")},
		{opt(4, "a"), opt(6, "b"), opt(131, "abcd")},
	} {
		was := slices.Clone(l)
		_, want, _ := toGet(l)
		_, first, _ := Get(l...)
		_, second, _ := Get(l...)
		for i := range first {
			first[i] = opt(0, "changed")
		}
		_ = append(first, opt(0, "more"))
		if !same(l, was) {
			t.Errorf("Get shares its list: %q", l)
		}
		if !same(second, want) {
			t.Errorf("Get shares its results: %q", second)
		}
	}
}

// TestP10_1ListsStay: the lists that are handed in stay as they were (R5), and what stands behind them in their memory too.
func TestP10_1ListsStay(t *testing.T) {
	backwards := all()
	slices.Reverse(backwards)
	for _, l := range [][]api.Opt{nil, all(), backwards, mixed(), {opt(3, "abcd"), opt(3, "abcd")}, {opt(255, ""), opt(0, ""), opt(3, "abcd")}} {
		memory := append(slices.Clone(l), opt(77, "spare"), opt(78, "spare"))
		was := slices.Clone(memory)
		Get(memory[:len(l)]...)
		if !same(memory, was) {
			t.Errorf("%d options are changed: %q", len(l), memory)
		}
	}
}

// TestP10_3Put: what was put is got again, with no odd options.
func TestP10_3Put(t *testing.T) {
	check := func(x api.Ipcp) {
		t.Helper()
		l, e := Put(x)
		if e != api.OK {
			t.Fatalf("Put(%+v): %v", x, e)
		}
		if got, odd, e := Get(l...); got != x || len(odd) != 0 || e != api.OK {
			t.Fatalf("Get(Put(%+v)) = %+v, %q, %v", x, got, odd, e)
		}
	}
	for _, x := range sayings() {
		check(x)
	}
	for v := range uint32(1 << 16) {
		check(api.Ipcp{HasAddr: true, Addr: v << 8, HasDns1: true, Dns1: v, HasDns2: true, Dns2: v << 16})
	}
}
