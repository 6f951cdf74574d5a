package option

import (
	"slices"
	"strings"
	"testing"

	"halyard/api"
)

// text is these bytes as a string.
func text(l ...byte) string { return string(l) }

// opt is an option with this type and this data.
func opt(t uint8, data string) api.Opt { return api.Opt{Type: t, Data: data} }

// xs is that many bytes.
func xs(n int) string { return strings.Repeat("x", n) }

// times is that many options, all the same.
func times(n int, o api.Opt) []api.Opt { return slices.Repeat([]api.Opt{o}, n) }

// row is that many options without data, of the types from 0 on.
func row(n int) []api.Opt {
	var l []api.Opt
	for i := range n {
		l = append(l, opt(uint8(i), ""))
	}
	return l
}

// same reports whether two lists are, option by option, the same; the tests do not ask Alike for that.
func same(a, b []api.Opt) bool {
	if len(a) != len(b) {
		return false
	}
	for i := range a {
		if a[i].Type != b[i].Type || a[i].Data != b[i].Data {
			return false
		}
	}
	return true
}

// toPut is the chapter's words on Put, one after the other.
func toPut(l []api.Opt) (string, api.Errno) {
	if len(l) > 64 {
		return "", api.ErrFull
	}
	encoding, long := "", false
	for _, o := range l {
		long = long || len(o.Data) > 253
		encoding += text(o.Type, byte(len(o.Data)+2)) + o.Data
	}
	if long {
		return "", api.ErrArg
	}
	if len(encoding) > 1496 {
		return "", api.ErrLong
	}
	return encoding, api.OK
}

// toGet is the chapter's words on Get, one after the other.
func toGet(s string) ([]api.Opt, int, api.Errno) {
	if len(s) > 1496 {
		return nil, 0, api.ErrLong
	}
	var l []api.Opt
	begin := 0
	for begin != len(s) {
		remaining := len(s) - begin
		if len(l)+1 == 65 {
			return nil, begin, api.ErrFull
		}
		if remaining == 1 {
			return nil, begin, api.ErrEnd
		}
		length := int(s[begin+1])
		if length < 2 {
			return nil, begin, api.ErrForm
		}
		if length > remaining {
			return nil, begin, api.ErrEnd
		}
		l = append(l, opt(s[begin], s[begin+2:begin+length]))
		begin += length
	}
	return l, begin, api.OK
}

// checkPut holds Put of l against the chapter's words.
func checkPut(t *testing.T, l []api.Opt) {
	t.Helper()
	want, wantErr := toPut(l)
	if got, e := Put(l...); got != want || e != wantErr {
		t.Fatalf("Put(%d options, %.40q) = %.40q, %v, want %.40q, %v", len(l), l, got, e, want, wantErr)
	}
}

// checkGet holds Get of s against the chapter's words.
func checkGet(t *testing.T, s string) {
	t.Helper()
	wantL, wantAt, wantErr := toGet(s)
	l, at, e := Get(s)
	if !same(l, wantL) || at != wantAt || e != wantErr {
		t.Fatalf("Get(%d bytes, %.40q) = %.40q, %d, %v, want %.40q, %d, %v", len(s), s, l, at, e, wantL, wantAt, wantErr)
	}
}

// full is a list of 64 options whose encoding has that many bytes, from 128 on.
func full(size int) []api.Opt {
	l := row(64)
	for i, left := 0, size-128; left > 0; i++ {
		n := min(left, 253)
		l[i].Data = xs(n)
		left -= n
	}
	return l
}

// lists are those that can be put: of no option, one, many, 64; with no byte, one, many, 253; the longest; with data that looks like options.
func lists() [][]api.Opt {
	var every [253]byte
	for i := range every {
		every[i] = byte(i)
	}
	return [][]api.Opt{
		nil,
		{},
		{opt(0, "")},
		{opt(255, "")},
		{opt(1, "ab"), opt(7, "")},
		{opt(7, ""), opt(1, "ab")},
		{opt(1, "ab"), opt(1, "ab")},
		{opt(1, ""), opt(1, "a"), opt(1, ""), opt(2, "a")},
		{opt(1, "\x01\x02"), opt(7, "\x07\x02\x07\x02"), opt(0, "\x00\x00"), opt(2, "\x02\x01")},
		{opt(3, "\xc2\x23\x05"), opt(5, "\xff\xff\xff\xff"), opt(0, "\xc3\xa9\xfe")},
		{opt(9, xs(252))},
		{opt(9, xs(253))},
		{opt(9, string(every[:]))},
		append(times(5, opt(9, xs(253))), opt(9, xs(219))), // 1,496 bytes
		append(times(5, opt(9, xs(253))), opt(9, xs(218))), // 1,495 bytes
		row(63),
		row(64),
		times(64, opt(200, "\x00")),
		full(1495),
		full(1496),
	}
}

// TestP8_1Put: the chapter's example, no option, and others whose bytes are written out.
func TestP8_1Put(t *testing.T) {
	for _, c := range []struct {
		l    []api.Opt
		want string
	}{
		{nil, ""},
		{[]api.Opt{}, ""},
		{[]api.Opt{opt(1, "ab"), opt(7, "")}, text(1, 4, 97, 98, 7, 2)},
		{[]api.Opt{opt(7, ""), opt(1, "ab")}, text(7, 2, 1, 4, 97, 98)},
		{[]api.Opt{opt(0, "")}, text(0, 2)}, // a type need not be known
		{[]api.Opt{opt(255, "\x00")}, text(255, 3, 0)},
		{[]api.Opt{opt(1, "\xc3\xa9"), opt(1, "\xff")}, text(1, 4, 0xc3, 0xa9, 1, 3, 0xff)},
		{[]api.Opt{opt(9, xs(126))}, text(9, 128) + xs(126)},
		{[]api.Opt{opt(9, xs(252))}, text(9, 254) + xs(252)},
		{[]api.Opt{opt(9, xs(253))}, text(9, 255) + xs(253)},
		{[]api.Opt{opt(9, xs(253)), opt(7, "")}, text(9, 255) + xs(253) + text(7, 2)},
	} {
		if got, e := Put(c.l...); got != c.want || e != api.OK {
			t.Errorf("Put(%.40q) = %.40q, %v, want %.40q", c.l, got, e, c.want)
		}
	}
	if got, e := Put(); got != "" || e != api.OK {
		t.Errorf("Put() = %q, %v", got, e)
	}
}

// TestP8_1PutFull: 64 options are put, 65 and more are not, with nothing beside the error (R2).
func TestP8_1PutFull(t *testing.T) {
	for _, o := range []api.Opt{{}, opt(7, ""), opt(1, "ab"), opt(255, xs(21))} {
		want := strings.Repeat(text(o.Type, byte(2+len(o.Data)))+o.Data, 64)
		if got, e := Put(times(64, o)...); got != want || e != api.OK {
			t.Errorf("Put of 64 options %.40q = %.40q, %v", o, got, e)
		}
		for _, n := range []int{65, 66, 128, 256, 257, 320, 65536 + 1} {
			if got, e := Put(times(n, o)...); got != "" || e != api.ErrFull {
				t.Errorf("Put of %d options %.40q = %.40q, %v", n, o, got, e)
			}
		}
	}
}

// TestP8_1PutArg: 254 bytes and more, in each place of a list.
func TestP8_1PutArg(t *testing.T) {
	for _, n := range []int{254, 255, 256, 257, 300, 509, 510, 1494, 1497, 65534, 65536, 100000} {
		for _, size := range []int{1, 2, 5, 64} {
			for at := range size {
				l := row(size)
				l[at].Data = xs(n)
				if got, e := Put(l...); got != "" || e != api.ErrArg {
					t.Errorf("Put of %d options, that at %d with %d bytes = %.40q, %v", size, at, n, got, e)
				}
			}
		}
	}
}

// TestP8_1PutLong: encodings of 1,496 bytes, of 1,497, and longer ones.
func TestP8_1PutLong(t *testing.T) {
	five := times(5, opt(9, xs(253))) // 1,275 bytes
	for _, c := range []struct {
		l []api.Opt
		n int
	}{
		{append(slices.Clone(five), opt(1, xs(218))), 1495},
		{append(slices.Clone(five), opt(1, xs(219))), 1496},
		{append(slices.Clone(five), opt(1, xs(216)), opt(7, "a")), 1496},
		{append(slices.Clone(five), opt(1, xs(217)), opt(7, "")), 1496},
		{full(1496), 1496},
	} {
		if got, e := Put(c.l...); len(got) != c.n || e != api.OK {
			t.Errorf("Put of %d options: %d bytes, %v, want %d", len(c.l), len(got), e, c.n)
		}
		checkPut(t, c.l)
	}
	for _, l := range [][]api.Opt{
		append(slices.Clone(five), opt(1, xs(220))),
		append(slices.Clone(five), opt(1, xs(217)), opt(7, "a")),
		append(slices.Clone(five), opt(1, xs(219)), opt(7, "")),
		append(slices.Clone(five), opt(1, xs(253))),
		full(1497),
		times(64, opt(1, xs(253))),
		times(6, opt(1, xs(253))),
	} {
		if got, e := Put(l...); got != "" || e != api.ErrLong {
			t.Errorf("Put of %d options = %d bytes, %v", len(l), len(got), e)
		}
	}
}

// TestP8_1PutOrder: which error comes first where two or three apply.
func TestP8_1PutOrder(t *testing.T) {
	six := times(6, opt(1, xs(253))) // too long together
	for _, c := range []struct {
		l    []api.Opt
		want api.Errno
	}{
		{append(row(64), opt(1, xs(254))), api.ErrFull},
		{append([]api.Opt{opt(1, xs(254))}, row(64)...), api.ErrFull},
		{times(65, opt(1, xs(253))), api.ErrFull},
		{times(65, opt(1, xs(254))), api.ErrFull},
		{times(65, opt(1, xs(2000))), api.ErrFull},
		{append(slices.Clone(six), opt(1, xs(254))), api.ErrArg}, // too long already where it begins
		{append([]api.Opt{opt(1, xs(254))}, six...), api.ErrArg},
		{times(64, opt(1, xs(254))), api.ErrArg},
		{[]api.Opt{opt(1, xs(1495))}, api.ErrArg},
		{[]api.Opt{opt(1, xs(2000))}, api.ErrArg},
	} {
		if got, e := Put(c.l...); got != "" || e != c.want {
			t.Errorf("Put of %d options = %d bytes, %v, want %v", len(c.l), len(got), e, c.want)
		}
	}
}

// TestP8_1PutEvery: each type, each length of one option's data, each number of options, each length of the encoding.
func TestP8_1PutEvery(t *testing.T) {
	for n := range 300 {
		for _, kind := range []uint8{0, 1, 255} {
			checkPut(t, []api.Opt{opt(kind, xs(n))})
			checkPut(t, []api.Opt{opt(7, ""), opt(kind, xs(n)), opt(1, "ab")})
		}
		checkPut(t, row(n))
		checkPut(t, times(n, opt(7, "ab")))
	}
	for kind := range 256 {
		checkPut(t, []api.Opt{opt(uint8(kind), "ab"), opt(uint8(255-kind), "")})
	}
	for size := 128; size < 2000; size++ {
		checkPut(t, full(size))
	}
	for range 2 { // the same when asked again (R6)
		for _, l := range lists() {
			checkPut(t, l)
		}
	}
}

// TestP8_2Get: the chapter's examples, and others whose options are written out; nothing beside an error but the position (R2).
func TestP8_2Get(t *testing.T) {
	for _, c := range []struct {
		s  string
		l  []api.Opt
		at int
		e  api.Errno
	}{
		{"", nil, 0, api.OK},
		{text(1, 4, 97, 98, 7, 2), []api.Opt{opt(1, "ab"), opt(7, "")}, 6, api.OK},
		{text(7, 2, 1, 4, 97, 98), []api.Opt{opt(7, ""), opt(1, "ab")}, 6, api.OK},
		{text(0, 2), []api.Opt{opt(0, "")}, 2, api.OK}, // a type need not be known
		{text(255, 3, 0), []api.Opt{opt(255, "\x00")}, 3, api.OK},
		{text(1, 2, 1, 2, 1, 3, 1), []api.Opt{opt(1, ""), opt(1, ""), opt(1, "\x01")}, 7, api.OK},
		{text(1, 6, 1, 1, 1, 0), []api.Opt{opt(1, "\x01\x01\x01\x00")}, 6, api.OK}, // data is not looked at
		{text(1, 4, 0xc3, 0xa9), []api.Opt{opt(1, "\xc3\xa9")}, 4, api.OK},
		{text(9, 254) + xs(252), []api.Opt{opt(9, xs(252))}, 254, api.OK},
		{text(9, 255) + xs(253), []api.Opt{opt(9, xs(253))}, 255, api.OK},
		{text(9, 255) + xs(253) + text(7, 2), []api.Opt{opt(9, xs(253)), opt(7, "")}, 257, api.OK},
		// One byte only, whatever it is.
		{text(1), nil, 0, api.ErrEnd},
		{text(0), nil, 0, api.ErrEnd},
		{text(2), nil, 0, api.ErrEnd},
		{text(255), nil, 0, api.ErrEnd},
		{text(7, 2, 1), nil, 2, api.ErrEnd},
		{text(1, 4, 97, 98, 7), nil, 4, api.ErrEnd},
		{text(1, 4, 97, 98, 7, 2, 0), nil, 6, api.ErrEnd},
		// A length that is less than the head's.
		{text(1, 0), nil, 0, api.ErrForm},
		{text(1, 1), nil, 0, api.ErrForm},
		{text(1, 0, 7, 2), nil, 0, api.ErrForm},
		{text(1, 1, 7, 2), nil, 0, api.ErrForm},
		{text(7, 2, 1, 1), nil, 2, api.ErrForm},
		{text(7, 2, 1, 0), nil, 2, api.ErrForm},
		{text(1, 4, 97, 98, 7, 1, 7, 2), nil, 4, api.ErrForm},
		{text(1, 4, 97, 98, 7, 2, 7, 0), nil, 6, api.ErrForm},
		{text(1, 1) + xs(1494), nil, 0, api.ErrForm},
		// More than there is: one byte more, and as many as can be told.
		{text(1, 3), nil, 0, api.ErrEnd},
		{text(1, 4, 97), nil, 0, api.ErrEnd},
		{text(1, 5, 97, 98), nil, 0, api.ErrEnd},
		{text(1, 255), nil, 0, api.ErrEnd},
		{text(1, 255) + xs(252), nil, 0, api.ErrEnd},
		{text(7, 2, 1, 3), nil, 2, api.ErrEnd},
		{text(7, 2, 1, 4, 97), nil, 2, api.ErrEnd}, // as many bytes as s has, more than are left
		{text(7, 2, 1, 5, 97), nil, 2, api.ErrEnd},
		{text(7, 2, 1, 255), nil, 2, api.ErrEnd},
		{text(1, 4, 97, 98, 7, 3), nil, 4, api.ErrEnd},
		{text(9, 255) + xs(253) + text(7, 3), nil, 255, api.ErrEnd},
		{text(9, 255) + xs(253) + text(7, 1), nil, 255, api.ErrForm},
		{text(9, 255) + xs(253) + text(9, 255) + xs(252), nil, 255, api.ErrEnd},
		// The first one that is wrong is told, not a later one.
		{text(1, 1, 1), nil, 0, api.ErrForm},
		{text(7, 2, 1, 1, 1, 4), nil, 2, api.ErrForm},
		{text(7, 2, 1, 9, 1, 1), nil, 2, api.ErrEnd},
	} {
		l, at, e := Get(c.s)
		if !same(l, c.l) || at != c.at || e != c.e {
			t.Errorf("Get(%d bytes, %.20q) = %.40q, %d, %v, want %.40q, %d, %v", len(c.s), c.s, l, at, e, c.l, c.at, c.e)
		}
	}
}

// TestP8_2GetFull: 64 options and what follows them; where the 65th begins, it is told ahead of what is wrong with it.
func TestP8_2GetFull(t *testing.T) {
	empty := strings.Repeat(text(7, 2), 64)
	mixed := strings.Repeat(text(7, 2, 1, 4, 97, 98), 32)
	for _, s := range []string{empty, mixed} {
		if l, at, e := Get(s); len(l) != 64 || at != len(s) || e != api.OK {
			t.Errorf("Get of 64 options: %d, %d, %v", len(l), at, e)
		}
		for _, next := range []string{
			text(7, 2), text(7), text(7, 0), text(7, 1), text(7, 3), text(7, 255), text(7, 2, 7), text(7, 2, 7, 2), text(7, 3, 7),
			xs(1496 - len(s)), strings.Repeat("\x00", 1000), strings.Repeat("\x02", 1000),
		} {
			if l, at, e := Get(s + next); len(l) != 0 || at != len(s) || e != api.ErrFull {
				t.Errorf("Get of 64 options and %.20q: %d, %d, %v", next, len(l), at, e)
			}
		}
	}
	// What is wrong ahead of the 65th comes first.
	for _, n := range []int{0, 1, 62, 63} {
		for wrong, want := range map[string]api.Errno{text(7, 1) + empty: api.ErrForm, text(7, 0) + empty: api.ErrForm, text(7, 255) + empty: api.ErrEnd} {
			if l, at, e := Get(empty[:2*n] + wrong); len(l) != 0 || at != 2*n || e != want {
				t.Errorf("Get of %d options and %.20q: %d, %d, %v, want %v", n, wrong, len(l), at, e, want)
			}
		}
	}
}

// TestP8_2GetLong: 1,496 bytes are read, of more nothing is, whatever is wrong in them.
func TestP8_2GetLong(t *testing.T) {
	nine := text(9, 255) + xs(253)
	most := strings.Repeat(nine, 5) + text(9, 221) + xs(219)
	if l, at, e := Get(most); len(l) != 6 || at != 1496 || e != api.OK {
		t.Errorf("Get of 1,496 bytes: %d options, %d, %v", len(l), at, e)
	}
	if l, at, e := Get(strings.Repeat(nine, 5) + text(9, 220) + xs(218) + "x"); len(l) != 0 || at != 1495 || e != api.ErrEnd {
		t.Errorf("Get of 1,495 bytes and one: %d options, %d, %v", len(l), at, e)
	}
	for _, s := range []string{
		most + "x",                        // one byte only
		most + text(7, 2),                 // a good one
		most + text(7, 1),                 // a bad one
		strings.Repeat(nine, 6),           // good ones
		text(1, 1) + xs(1495),             // wrong at once
		text(1, 255, 0) + xs(1494),        // wrong behind the first one
		strings.Repeat("\x00", 1497),      // wrong at once
		strings.Repeat("\x02", 1497),      // more than 64
		strings.Repeat("\x02", 1498),      // the same
		strings.Repeat("\xff", 1497),      // too few behind the last one
		strings.Repeat(text(7, 2), 50000), // many good ones
		xs(70000),
	} {
		if l, at, e := Get(s); len(l) != 0 || at != 0 || e != api.ErrLong {
			t.Errorf("Get of %d bytes, %.20q: %d, %d, %v", len(s), s, len(l), at, e)
		}
	}
}

// TestP8_2GetEveryLength: each length, with each number of bytes there, as the first option, behind one, and behind 63.
func TestP8_2GetEveryLength(t *testing.T) {
	for length := range 256 {
		for there := range 260 {
			s := text(1, byte(length)) + strings.Repeat("\x02", there)
			checkGet(t, s)
			checkGet(t, text(1, 4, 97, 98)+s)
			if there < 10 || there+3 > length && there < length+3 {
				checkGet(t, strings.Repeat(text(7, 2), 63)+s)
			}
		}
	}
}

// TestP8_2GetEveryShort: all strings of up to seven bytes of those that matter, at the start and behind 61 options.
func TestP8_2GetEveryShort(t *testing.T) {
	matter := []byte{0, 1, 2, 3, 4, 255}
	ahead := strings.Repeat(text(7, 2), 61)
	var grow func(s string, left int)
	grow = func(s string, left int) {
		checkGet(t, s)
		if left < 2 {
			checkGet(t, ahead+s)
		}
		if left == 0 {
			return
		}
		for _, b := range matter {
			grow(s+text(b), left-1)
		}
	}
	grow("", 7)
}

// TestP8_2GetEveryCut: of each list's encoding each prefix, and the whole with a byte behind it.
func TestP8_2GetEveryCut(t *testing.T) {
	for range 2 { // the same when asked again (R6)
		for _, l := range lists() {
			s, _ := toPut(l)
			for n := range len(s) + 1 {
				checkGet(t, s[:n])
			}
			checkGet(t, s+"\x02")
			checkGet(t, s+"\x02\x02")
		}
	}
}

// TestP8_2GetNew: what Get returns is the caller's (R5).
func TestP8_2GetNew(t *testing.T) {
	s := text(1, 4, 97, 98, 7, 2)
	first, _, _ := Get(s)
	first[0], first[1] = opt(0, "changed"), opt(0, "changed")
	if l, at, e := Get(s); !same(l, []api.Opt{opt(1, "ab"), opt(7, "")}) || at != 6 || e != api.OK {
		t.Errorf("Get again = %q, %d, %v", l, at, e)
	}
}

// TestP8_3Find: a type that none has, that one has, the first, the last, that several have.
func TestP8_3Find(t *testing.T) {
	l := []api.Opt{opt(1, "first"), opt(7, ""), opt(5, "a"), opt(0, "zero"), opt(5, "b"), opt(255, "z"), opt(5, "a"), opt(9, "last")}
	for _, c := range []struct {
		t    uint8
		l    []api.Opt
		want api.Opt
		ok   bool
	}{
		{1, nil, api.Opt{}, false},
		{0, nil, api.Opt{}, false}, // not an option of type 0
		{0, []api.Opt{}, api.Opt{}, false},
		{2, l, api.Opt{}, false},
		{254, l, api.Opt{}, false},
		{1, l, opt(1, "first"), true},
		{7, l, opt(7, ""), true},
		{5, l, opt(5, "a"), true},
		{5, l[3:], opt(5, "b"), true},
		{0, l, opt(0, "zero"), true},
		{255, l, opt(255, "z"), true},
		{9, l, opt(9, "last"), true},
		{0, []api.Opt{{}}, api.Opt{}, true}, // zero, and yet it is there
		{0, []api.Opt{opt(1, "")}, api.Opt{}, false},
		{3, []api.Opt{opt(3, "x"), opt(3, "")}, opt(3, "x"), true},
		{3, []api.Opt{opt(3, ""), opt(3, "x")}, opt(3, ""), true},
		{3, []api.Opt{opt(3, xs(1000))}, opt(3, xs(1000)), true}, // no limit is set on these
		{200, append(times(300, opt(1, "")), opt(200, "far")), opt(200, "far"), true},
	} {
		if got, ok := Find(c.t, c.l...); got != c.want || ok != c.ok {
			t.Errorf("Find(%d, %.40q) = %.40q, %v, want %.40q, %v", c.t, c.l, got, ok, c.want, c.ok)
		}
	}
}

// TestP8_3Without: a type that none has, that one has, the first, the last, that several have, that all have.
func TestP8_3Without(t *testing.T) {
	a, b, c, d := opt(1, "a"), opt(7, ""), opt(1, "c"), opt(9, "d")
	for _, x := range []struct {
		t    uint8
		l    []api.Opt
		want []api.Opt
	}{
		{1, nil, nil},
		{0, nil, nil},
		{0, []api.Opt{}, nil},
		{2, []api.Opt{a, b, c, d}, []api.Opt{a, b, c, d}},
		{0, []api.Opt{a, b, c, d}, []api.Opt{a, b, c, d}},
		{1, []api.Opt{a, b, c, d}, []api.Opt{b, d}},
		{7, []api.Opt{a, b, c, d}, []api.Opt{a, c, d}},
		{9, []api.Opt{a, b, c, d}, []api.Opt{a, b, c}},
		{7, []api.Opt{b, a, c, d}, []api.Opt{a, c, d}},
		{1, []api.Opt{d, c, b, a}, []api.Opt{d, b}},
		{1, []api.Opt{a, a, b, b}, []api.Opt{b, b}}, // all others, also those that are alike
		{1, []api.Opt{a}, nil},
		{1, []api.Opt{a, c, a}, nil},
		{7, []api.Opt{a}, []api.Opt{a}},
		{0, []api.Opt{{}, a, {}}, []api.Opt{a}},
		{255, []api.Opt{opt(255, ""), opt(254, ""), opt(255, "x")}, []api.Opt{opt(254, "")}},
		{1, append(times(300, b), a), times(300, b)}, // no limit is set on these
		{1, []api.Opt{opt(7, xs(1000)), a}, []api.Opt{opt(7, xs(1000))}},
	} {
		if got := Without(x.t, x.l...); !same(got, x.want) {
			t.Errorf("Without(%d, %.40q) = %.40q, want %.40q", x.t, x.l, got, x.want)
		}
	}
}

// TestP8_3Every: each type, in lists that have all of them, none or one.
func TestP8_3Every(t *testing.T) {
	all := append(row(256), row(256)...)
	for i := range all {
		all[i].Data = text(byte(i / 256)) // the first ones are told from the second ones
	}
	for kind := range 256 {
		k := uint8(kind)
		if got, ok := Find(k, all...); got != opt(k, "\x00") || !ok {
			t.Errorf("Find(%d, ..) = %q, %v", k, got, ok)
		}
		left := Without(k, all...)
		if want := slices.Concat(all[:kind], all[kind+1:256+kind], all[257+kind:]); !same(left, want) {
			t.Errorf("Without(%d, ..): %d options", k, len(left))
		}
		if got, ok := Find(k, left...); got != (api.Opt{}) || ok {
			t.Errorf("Find(%d, ..) of the others = %q, %v", k, got, ok)
		}
		if again := Without(k, left...); !same(again, left) {
			t.Errorf("Without(%d, ..) of the others: %d options", k, len(again))
		}
	}
}

// TestP8_3WithoutNew: a result shares nothing with the list that was handed in, nor with another result (R5), even if nothing is left out.
func TestP8_3WithoutNew(t *testing.T) {
	for _, kind := range []uint8{1, 2, 3, 4} {
		l := []api.Opt{opt(1, "a"), opt(2, "b"), opt(3, "c"), opt(9, "spare")}[:3]
		first := Without(kind, l...)
		second := Without(kind, l...)
		want := slices.Clone(second)
		for i := range first {
			first[i] = opt(0, "changed")
		}
		_ = append(first, opt(0, "more"))
		if !same(l[:4], []api.Opt{opt(1, "a"), opt(2, "b"), opt(3, "c"), opt(9, "spare")}) {
			t.Errorf("Without(%d, ..) shares its list: %q", kind, l[:4])
		}
		if !same(second, want) {
			t.Errorf("Without(%d, ..) shares its results: %q", kind, second)
		}
	}
}

// TestP8_3Alike: lists of unlike lengths, that differ in a type, in a byte of data, in the order alone; nil and empty.
func TestP8_3Alike(t *testing.T) {
	a, b := opt(1, "ab"), opt(7, "")
	for _, c := range []struct {
		a, b []api.Opt
		want bool
	}{
		{nil, nil, true},
		{nil, []api.Opt{}, true},
		{[]api.Opt{}, []api.Opt{}, true},
		{nil, []api.Opt{{}}, false},
		{[]api.Opt{}, []api.Opt{b}, false},
		{[]api.Opt{a}, []api.Opt{a}, true},
		{[]api.Opt{{}}, []api.Opt{{}}, true},
		{[]api.Opt{{}}, []api.Opt{{}, {}}, false},
		{[]api.Opt{a, b}, []api.Opt{a, b}, true},
		{[]api.Opt{a, b}, []api.Opt{b, a}, false},
		{[]api.Opt{a, b}, []api.Opt{a}, false},
		{[]api.Opt{a, b}, []api.Opt{b}, false},
		{[]api.Opt{a, a}, []api.Opt{a}, false},
		{[]api.Opt{a, b}, []api.Opt{a, b, b}, false},
		{[]api.Opt{a, a, b}, []api.Opt{a, b, b}, false},
		{[]api.Opt{a, b}, []api.Opt{opt(2, "ab"), b}, false},
		{[]api.Opt{a, b}, []api.Opt{a, opt(8, "")}, false},
		{[]api.Opt{a, b}, []api.Opt{opt(1, "ac"), b}, false},
		{[]api.Opt{a, b}, []api.Opt{opt(1, "bb"), b}, false},
		{[]api.Opt{a, b}, []api.Opt{opt(1, "a"), b}, false},
		{[]api.Opt{a, b}, []api.Opt{opt(1, "ab\x00"), b}, false},
		{[]api.Opt{a, b}, []api.Opt{opt(1, "AB"), b}, false},
		{[]api.Opt{a, b}, []api.Opt{a, opt(7, "\x00")}, false},
		{[]api.Opt{opt(1, "\x07\x02")}, []api.Opt{opt(1, ""), opt(7, "")}, false},
		{[]api.Opt{opt(1, "a"), opt(1, "b")}, []api.Opt{opt(1, "b"), opt(1, "a")}, false},
		{[]api.Opt{opt(1, "\xff")}, []api.Opt{opt(1, "\xfe")}, false}, // bytes, not runes
		{times(300, a), times(300, a), true},                          // no limit is set on these
		{times(300, a), times(299, a), false},
		{[]api.Opt{opt(1, xs(1000))}, []api.Opt{opt(1, xs(1000))}, true},
		{[]api.Opt{opt(1, xs(1000)+"y")}, []api.Opt{opt(1, xs(1000)+"z")}, false},
	} {
		if got, back := Alike(c.a, c.b), Alike(c.b, c.a); got != c.want || back != c.want {
			t.Errorf("Alike(%.40q, %.40q) = %v, and %v the other way round", c.a, c.b, got, back)
		}
	}
}

// TestP8_3AlikeEvery: each list with each, and with itself where one option of it is another one, or one byte.
func TestP8_3AlikeEvery(t *testing.T) {
	for _, a := range lists() {
		for _, b := range lists() {
			if got := Alike(a, b); got != same(a, b) {
				t.Errorf("Alike(%.40q, %.40q) = %v", a, b, got)
			}
		}
		for i, o := range a {
			b := slices.Clone(a)
			b[i].Type ^= 0x80
			if Alike(a, b) {
				t.Errorf("%d options with another type at %d are alike", len(a), i)
			}
			for at := range len(o.Data) {
				b[i] = opt(o.Type, o.Data[:at]+text(o.Data[at]^1)+o.Data[at+1:])
				if Alike(a, b) {
					t.Errorf("%d options with another byte at %d, %d are alike", len(a), i, at)
				}
			}
		}
	}
}

// TestP8_3ListsStay: the lists that are handed in, to Put as well, stay as they were (R5), and what stands behind them in their memory too.
func TestP8_3ListsStay(t *testing.T) {
	others := [][]api.Opt{append(row(64), opt(1, xs(254))), {opt(1, xs(254))}, times(7, opt(1, xs(253)))} // those that can't be put
	for _, l := range append(lists(), others...) {
		memory := append(slices.Clone(l), opt(77, "spare"), opt(78, "spare"))
		was := slices.Clone(memory)
		handed := memory[:len(l)]
		Put(handed...)
		for _, kind := range []uint8{0, 1, 7, 9, 200} {
			Find(kind, handed...)
			Without(kind, handed...)
		}
		Alike(handed, l)
		Alike(l, handed)
		if !same(memory, was) {
			t.Errorf("%d options are changed: %.80q", len(l), memory)
		}
	}
}

// TestP8_4Inverse: what was put is got again, with the length of what was put.
func TestP8_4Inverse(t *testing.T) {
	check := func(l []api.Opt) {
		t.Helper()
		s, e := Put(l...)
		if e != api.OK {
			t.Fatalf("Put(%d options): %v", len(l), e)
		}
		if got, at, e := Get(s); !same(got, l) || at != len(s) || e != api.OK {
			t.Fatalf("Get(Put(%.40q)) = %.40q, %d, %v", l, got, at, e)
		}
	}
	for _, l := range lists() {
		check(l)
	}
	for n := range 254 {
		check([]api.Opt{opt(uint8(n), xs(n))})
		check([]api.Opt{opt(7, "ab"), opt(uint8(n), xs(n)), opt(1, "")})
	}
	for n := range 65 {
		check(row(n))
		check(times(n, opt(255, "\x00\x01\x02")))
	}
	for size := 128; size <= 1496; size++ {
		check(full(size))
	}
}

// TestP8_4GotIsPut: what Get returns of any bytes, put again, is those bytes.
func TestP8_4GotIsPut(t *testing.T) {
	taken := 0
	check := func(s string) {
		l, _, e := Get(s)
		if e != api.OK {
			return
		}
		taken++
		if again, e := Put(l...); again != s || e != api.OK {
			t.Fatalf("Put(Get(%.40q)) = %.40q, %v", s, again, e)
		}
	}
	var grow func(s string, left int)
	grow = func(s string, left int) {
		check(s)
		for b := range byte(5) {
			if left > 0 {
				grow(s+text(b), left-1)
			}
		}
	}
	grow("", 7)
	for _, l := range lists() {
		s, _ := toPut(l)
		for n := range len(s) + 1 {
			check(s[:n])
			check(s[n:])
		}
	}
	for length := range 256 {
		check(text(9, byte(length)) + xs(max(length-2, 0)))
	}
	if taken < 500 {
		t.Errorf("only %d strings were got", taken)
	}
}

// TestP8_4Joined: two lists joined are encoded as the one behind the other, as far as the limits let them.
func TestP8_4Joined(t *testing.T) {
	joined := 0
	for _, a := range lists() {
		for _, b := range lists() {
			first, e1 := Put(a...)
			second, e2 := Put(b...)
			if e1 != api.OK || e2 != api.OK {
				t.Fatalf("Put: %v, %v", e1, e2)
			}
			both := slices.Concat(a, b)
			got, e := Put(both...)
			l, at, wrong := Get(first + second)
			switch {
			case len(both) > 64:
				if got != "" || e != api.ErrFull {
					t.Errorf("Put of %d and %d options = %.40q, %v", len(a), len(b), got, e)
				}
			case len(first+second) > 1496:
				if got != "" || e != api.ErrLong {
					t.Errorf("Put of %d and %d bytes = %.40q, %v", len(first), len(second), got, e)
				}
			default:
				joined++
				if got != first+second || e != api.OK {
					t.Errorf("Put of %d and %d options = %.40q, %v", len(a), len(b), got, e)
				}
				if !same(l, both) || at != len(first)+len(second) || wrong != api.OK {
					t.Errorf("Get of %d and %d bytes = %.40q, %d, %v", len(first), len(second), l, at, wrong)
				}
			}
		}
	}
	if joined == 0 {
		t.Error("none were joined")
	}
}
