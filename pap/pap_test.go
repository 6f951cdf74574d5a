package pap

import (
	"strings"
	"testing"

	"halyard/api"
	"halyard/packet"
)

// text is these bytes as a string.
func text(l ...byte) string { return string(l) }

// long is a string of so many bytes, of which no two that are near to each other are the same.
func long(n int) string {
	l := make([]byte, n)
	for i := range l {
		l[i] = byte(i*7 + i/256)
	}
	return string(l)
}

// encoding is layer 1's definition: the length, one byte, and the bytes.
func encoding(s string) string { return text(byte(len(s))) + s }

// pkt is a packet.
func pkt(code, id uint8, data string) api.Packet { return api.Packet{Code: code, Id: id, Data: data} }

// toRequest is the chapter's words on Request.
func toRequest(id uint8, name, secret string) (api.Packet, api.Errno) {
	if len(name) > 255 || len(secret) > 255 {
		return api.Packet{}, api.ErrLong
	}
	return pkt(1, id, encoding(name)+encoding(secret)), api.OK
}

// toAnswer is the chapter's words on Answer.
func toAnswer(id uint8, well bool, message string) (api.Packet, api.Errno) {
	if len(message) > 255 {
		return api.Packet{}, api.ErrLong
	}
	if well {
		return pkt(2, id, encoding(message)), api.OK
	}
	return pkt(3, id, encoding(message)), api.OK
}

// ends is where the n-th string that is encoded in the data ends, whether the data has so many bytes or not; and where its bytes begin.
func ends(data string, n int) (from, to int) {
	for range n {
		if to >= len(data) {
			return to + 1, to + 1 // its length is wanting
		}
		from = to + 1
		to = from + int(data[to])
	}
	return from, to
}

// wrongWith is the chapter's words on data that is to have n strings.
func wrongWith(data string, n int) api.Errno {
	_, to := ends(data, n)
	switch {
	case to > len(data):
		return api.ErrEnd
	case to < len(data):
		return api.ErrForm
	}
	return api.OK
}

// toAsked is the chapter's words on Asked.
func toAsked(p api.Packet) (name, secret string, e api.Errno) {
	if p.Code != 1 {
		return "", "", api.ErrType
	}
	if e := wrongWith(p.Data, 2); e != api.OK {
		return "", "", e
	}
	from, to := ends(p.Data, 1)
	next, last := ends(p.Data, 2)
	return p.Data[from:to], p.Data[next:last], api.OK
}

// toAnswered is the chapter's words on Answered.
func toAnswered(p api.Packet) (well bool, message string, e api.Errno) {
	if p.Code != 2 && p.Code != 3 {
		return false, "", api.ErrType
	}
	if e := wrongWith(p.Data, 1); e != api.OK {
		return false, "", e
	}
	return p.Code == 2, p.Data[1:], api.OK
}

// checkRequest holds Request against the chapter's words.
func checkRequest(t *testing.T, id uint8, name, secret string) {
	t.Helper()
	want, wantErr := toRequest(id, name, secret)
	if p, e := Request(id, name, secret); p != want || e != wantErr {
		t.Fatalf("Request(%d, %.20q, %.20q), of %d and %d bytes, = %.40q, %v, want %.40q, %v", id, name, secret, len(name), len(secret), p, e, want, wantErr)
	}
}

// checkAnswer holds Answer against the chapter's words, well and not.
func checkAnswer(t *testing.T, id uint8, message string) {
	t.Helper()
	for _, well := range []bool{true, false} {
		want, wantErr := toAnswer(id, well, message)
		if p, e := Answer(id, well, message); p != want || e != wantErr {
			t.Fatalf("Answer(%d, %v, %.20q), of %d bytes, = %.40q, %v, want %.40q, %v", id, well, message, len(message), p, e, want, wantErr)
		}
	}
}

// checkRead holds Asked and Answered, of any packet, against the chapter's words.
func checkRead(t *testing.T, p api.Packet) {
	t.Helper()
	wantName, wantSecret, wantErr := toAsked(p)
	if name, secret, e := Asked(p); name != wantName || secret != wantSecret || e != wantErr {
		t.Fatalf("Asked(%.40q), of %d bytes, = %.20q, %.20q, %v, want %.20q, %.20q, %v", p, len(p.Data), name, secret, e, wantName, wantSecret, wantErr)
	}
	wantWell, wantMessage, wantErr := toAnswered(p)
	if well, message, e := Answered(p); well != wantWell || message != wantMessage || e != wantErr {
		t.Fatalf("Answered(%.40q), of %d bytes, = %v, %.20q, %v, want %v, %.20q, %v", p, len(p.Data), well, message, e, wantWell, wantMessage, wantErr)
	}
}

// checkData is checkRead of these data with each code of note.
func checkData(t *testing.T, data string) {
	t.Helper()
	for _, code := range []uint8{0, 1, 2, 3, 4, 255} {
		checkRead(t, pkt(code, 9, data))
	}
}

// texts are empty, short and long ones, those whose bytes look like encodings, and all bytes, each of at most 255.
func texts() []string {
	l := []string{
		"", "a", "b", "ab", "ba", "A", "user", "\x00", "\x00\x00", "\x01", "\x01a", "\x02ab", "\x01a\x00", "\xff", "\n", " ",
		"\xc3\xa9\xe2\x82\xac", "\xfe\x80\xff", "aa", "a\x00", "\x00a", long(254), long(255), strings.Repeat("\x00", 255), strings.Repeat("\xff", 255),
	}
	var every [255]byte
	for i := range every {
		every[i] = byte(i + 1)
	}
	return append(l, string(every[:]))
}

// TestP18_1RequestKnown: the chapter's example, and others whose bytes are written out.
func TestP18_1RequestKnown(t *testing.T) {
	x := strings.Repeat("x", 255)
	for _, c := range []struct {
		id           uint8
		name, secret string
		data         string
	}{
		{1, "ab", "c", text(2, 97, 98, 1, 99)},
		{0, "", "", text(0, 0)},
		{255, "a", "", text(1, 97, 0)},
		{7, "", "a", text(0, 1, 97)},
		{1, "c", "ab", text(1, 99, 2, 97, 98)}, // the name is ahead
		{2, "\x00", "\xff\xfe", text(1, 0, 2, 255, 254)},
		{2, "\xc3\xa9", "\x80", text(2, 0xc3, 0xa9, 1, 0x80)}, // bytes, not runes
		{3, x, "", text(255) + x + text(0)},
		{3, "", x, text(0, 255) + x},
		{3, x, x, text(255) + x + text(255) + x},
	} {
		if p, e := Request(c.id, c.name, c.secret); p != pkt(1, c.id, c.data) || e != api.OK {
			t.Errorf("Request(%d, %.20q, %.20q) = %.40q, %v", c.id, c.name, c.secret, p, e)
		}
	}
}

// TestP18_1RequestLong: one byte too many, and many, in either or both, with nothing beside the error (R2).
func TestP18_1RequestLong(t *testing.T) {
	for _, n := range []int{256, 257, 511, 512, 513, 1496, 65536, 65791, 200000} {
		for _, other := range append(texts(), long(256), long(n)) {
			for _, c := range [][2]string{{long(n), other}, {other, long(n)}} {
				if p, e := Request(7, c[0], c[1]); p != (api.Packet{}) || e != api.ErrLong {
					t.Errorf("Request with %d and %d bytes = %.40q, %v", len(c[0]), len(c[1]), p, e)
				}
			}
		}
	}
}

// TestP18_1RequestEvery: each identifier, each length of each on both sides of the limit, and each byte, against the chapter's words, twice: the answer is the same (R6).
func TestP18_1RequestEvery(t *testing.T) {
	for range 2 {
		for id := range 256 {
			checkRequest(t, uint8(id), "ab", "c")
			checkRequest(t, uint8(id), long(id), text(byte(id)))
			checkRequest(t, 5, text(byte(id)), long(256+id))
		}
		for n := range 300 {
			for _, m := range []int{0, 1, 2, 127, 128, 254, 255, 256, 257, n, max(n-1, 0)} {
				checkRequest(t, 1, long(n), long(m))
				checkRequest(t, 1, long(m), long(n))
			}
		}
		for _, name := range texts() {
			for _, secret := range texts() {
				checkRequest(t, 3, name, secret)
			}
		}
	}
}

// TestP18_1AskedKnown: the chapter's examples, and others that are written out; nothing beside an error (R2).
func TestP18_1AskedKnown(t *testing.T) {
	x := strings.Repeat("x", 255)
	for _, c := range []struct {
		p            api.Packet
		name, secret string
		e            api.Errno
	}{
		{pkt(1, 1, text(2, 97, 98, 1, 99)), "ab", "c", api.OK},
		{pkt(1, 3, text(2, 97)), "", "", api.ErrEnd},
		{pkt(2, 3, text(2, 97)), "", "", api.ErrType},
		{pkt(1, 0, text(0, 0)), "", "", api.OK},
		{pkt(1, 255, text(1, 97, 0)), "a", "", api.OK},
		{pkt(1, 7, text(0, 1, 97)), "", "a", api.OK},
		{pkt(1, 7, text(2, 0, 255, 1, 1)), "\x00\xff", "\x01", api.OK},
		{pkt(1, 7, text(255)+x+text(255)+x), x, x, api.OK},
		// A byte is wanting: of the name's length, the name, the secret's length, the secret.
		{pkt(1, 1, ""), "", "", api.ErrEnd},
		{pkt(1, 1, text(1)), "", "", api.ErrEnd},
		{pkt(1, 1, text(0)), "", "", api.ErrEnd},
		{pkt(1, 1, text(2, 97, 98)), "", "", api.ErrEnd},
		{pkt(1, 1, text(2, 97, 98, 1)), "", "", api.ErrEnd},
		{pkt(1, 1, text(2, 97, 98, 2, 99)), "", "", api.ErrEnd},
		{pkt(1, 1, text(255)+x), "", "", api.ErrEnd},
		{pkt(1, 1, text(255)+x+text(255)+x[1:]), "", "", api.ErrEnd},
		// Something follows: one byte, an encoding, what is none, many.
		{pkt(1, 1, text(0, 0, 0)), "", "", api.ErrForm},
		{pkt(1, 1, text(2, 97, 98, 1, 99, 100)), "", "", api.ErrForm},
		{pkt(1, 1, text(2, 97, 98, 1, 99, 1, 100)), "", "", api.ErrForm},
		{pkt(1, 1, text(2, 97, 98, 1, 99, 200)), "", "", api.ErrForm}, // no third one is read, that would end too soon
		{pkt(1, 1, text(2, 97, 98, 0, 1, 99)), "", "", api.ErrForm},
		{pkt(1, 1, text(0, 0)+long(70000)), "", "", api.ErrForm},
		// The code is looked at first.
		{pkt(0, 1, text(0, 0)), "", "", api.ErrType},
		{pkt(3, 1, text(0, 0)), "", "", api.ErrType},
		{pkt(4, 1, ""), "", "", api.ErrType},
		{pkt(255, 1, text(0, 0, 0)), "", "", api.ErrType},
		{api.Packet{}, "", "", api.ErrType},
	} {
		if name, secret, e := Asked(c.p); name != c.name || secret != c.secret || e != c.e {
			t.Errorf("Asked(%.40q) = %.20q, %.20q, %v, want %.20q, %.20q, %v", c.p, name, secret, e, c.name, c.secret, c.e)
		}
	}
}

// TestP18_1AskedEvery: each code with each identifier, and each pair of lengths with as many bytes as these say, one fewer, and one more.
func TestP18_1AskedEvery(t *testing.T) {
	for code := range 256 {
		for id := range 256 {
			for _, data := range []string{text(2, 97, 98, 1, 99), text(2, 97), text(0, 0, 0), text(0)} {
				checkRead(t, pkt(uint8(code), uint8(id), data))
			}
		}
	}
	x := long(256)
	for n := range 256 {
		for m := range 256 {
			data := encoding(x[:n]) + encoding(x[1:m+1])
			checkRead(t, pkt(1, 1, data))
			checkRead(t, pkt(1, 1, data[:len(data)-1]))
			checkRead(t, pkt(1, 1, data+"\x00"))
		}
	}
}

// TestP18_1AskedLong: a request may have no more bytes than two texts, but whatever follows is looked at as something that follows, however much it is.
func TestP18_1AskedLong(t *testing.T) {
	x := long(255)
	whole := encoding(x) + encoding(x)
	if name, secret, e := Asked(pkt(1, 1, whole)); name != x || secret != x || e != api.OK {
		t.Errorf("Asked of %d bytes: %d, %d, %v", len(whole), len(name), len(secret), e)
	}
	for _, n := range []int{1, 2, 255, 256, 985, 1496, 65536, 200000} {
		for _, data := range []string{whole + long(n), encoding("") + encoding("") + long(n), encoding("a") + encoding("b") + strings.Repeat("\x00", n)} {
			if name, secret, e := Asked(pkt(1, 1, data)); name != "" || secret != "" || e != api.ErrForm {
				t.Errorf("Asked of %d bytes: %d, %d, %v", len(data), len(name), len(secret), e)
			}
		}
	}
}

// TestP18_2AnswerKnown: the chapter's example, and others whose bytes are written out.
func TestP18_2AnswerKnown(t *testing.T) {
	x := strings.Repeat("x", 255)
	for _, c := range []struct {
		id      uint8
		well    bool
		message string
		want    api.Packet
	}{
		{3, true, "", pkt(2, 3, text(0))},
		{3, false, "", pkt(3, 3, text(0))},
		{0, true, "hi", pkt(2, 0, text(2, 104, 105))},
		{255, false, "hi", pkt(3, 255, text(2, 104, 105))},
		{1, true, "\x00\xff", pkt(2, 1, text(2, 0, 255))},
		{1, false, "\xc3\xa9", pkt(3, 1, text(2, 0xc3, 0xa9))}, // bytes, not runes
		{9, true, x, pkt(2, 9, text(255)+x)},
		{9, false, x, pkt(3, 9, text(255)+x)},
	} {
		if p, e := Answer(c.id, c.well, c.message); p != c.want || e != api.OK {
			t.Errorf("Answer(%d, %v, %.20q) = %.40q, %v", c.id, c.well, c.message, p, e)
		}
	}
}

// TestP18_2AnswerLong: one byte too many, and many, with nothing beside the error (R2).
func TestP18_2AnswerLong(t *testing.T) {
	for _, n := range []int{256, 257, 511, 512, 513, 1496, 65536, 65791, 200000} {
		for _, well := range []bool{true, false} {
			if p, e := Answer(7, well, long(n)); p != (api.Packet{}) || e != api.ErrLong {
				t.Errorf("Answer with %d bytes = %.40q, %v", n, p, e)
			}
		}
	}
}

// TestP18_2AnswerEvery: each identifier, each length on both sides of the limit, and each text of note, against the chapter's words, twice: the answer is the same (R6).
func TestP18_2AnswerEvery(t *testing.T) {
	for range 2 {
		for id := range 256 {
			checkAnswer(t, uint8(id), "hi")
			checkAnswer(t, uint8(id), text(byte(id)))
		}
		for n := range 1000 {
			checkAnswer(t, 1, long(n))
		}
		for _, message := range texts() {
			checkAnswer(t, 3, message)
		}
	}
}

// TestP18_2AnsweredKnown: some that are written out; nothing beside an error, also not that it is well (R2).
func TestP18_2AnsweredKnown(t *testing.T) {
	x := strings.Repeat("x", 255)
	for _, c := range []struct {
		p       api.Packet
		well    bool
		message string
		e       api.Errno
	}{
		{pkt(2, 3, text(0)), true, "", api.OK},
		{pkt(3, 3, text(0)), false, "", api.OK},
		{pkt(2, 0, text(2, 104, 105)), true, "hi", api.OK},
		{pkt(3, 255, text(2, 104, 105)), false, "hi", api.OK},
		{pkt(2, 1, text(1, 0)), true, "\x00", api.OK},
		{pkt(3, 1, text(255)+x), false, x, api.OK},
		{pkt(2, 1, text(255)+x), true, x, api.OK},
		// A byte is wanting: of the length, of the message.
		{pkt(2, 1, ""), false, "", api.ErrEnd},
		{pkt(3, 1, ""), false, "", api.ErrEnd},
		{pkt(2, 1, text(1)), false, "", api.ErrEnd},
		{pkt(2, 1, text(3, 104, 105)), false, "", api.ErrEnd},
		{pkt(3, 1, text(3, 104, 105)), false, "", api.ErrEnd},
		{pkt(2, 1, text(255)+x[1:]), false, "", api.ErrEnd},
		// Something follows: one byte, an encoding, what is none, many.
		{pkt(2, 1, text(0, 0)), false, "", api.ErrForm},
		{pkt(3, 1, text(0, 0)), false, "", api.ErrForm},
		{pkt(2, 1, text(1, 104, 105)), false, "", api.ErrForm},
		{pkt(2, 1, text(1, 104, 200)), false, "", api.ErrForm}, // no second one is read, that would end too soon
		{pkt(3, 1, text(1, 104, 1, 105)), false, "", api.ErrForm},
		{pkt(2, 1, text(255)+x+"x"), false, "", api.ErrForm},
		{pkt(2, 1, text(0)+long(70000)), false, "", api.ErrForm},
		// The code is looked at first.
		{pkt(1, 1, text(0)), false, "", api.ErrType},
		{pkt(0, 1, text(0)), false, "", api.ErrType},
		{pkt(4, 1, text(0, 0)), false, "", api.ErrType},
		{pkt(255, 1, ""), false, "", api.ErrType},
		{api.Packet{}, false, "", api.ErrType},
	} {
		if well, message, e := Answered(c.p); well != c.well || message != c.message || e != c.e {
			t.Errorf("Answered(%.40q) = %v, %.20q, %v, want %v, %.20q, %v", c.p, well, message, e, c.well, c.message, c.e)
		}
	}
}

// TestP18_2AnsweredEvery: each code with each identifier, and each length with any number of bytes behind it.
func TestP18_2AnsweredEvery(t *testing.T) {
	for code := range 256 {
		for id := range 256 {
			for _, data := range []string{text(2, 104, 105), text(2, 104), text(0, 0, 0), text(0), ""} {
				checkRead(t, pkt(uint8(code), uint8(id), data))
			}
		}
	}
	x := long(300)
	for length := range 256 {
		for there := range 301 {
			checkRead(t, pkt(2, 1, text(byte(length))+x[:there]))
			checkRead(t, pkt(3, 1, text(byte(length))+x[:there]))
		}
	}
}

// TestP18_2EveryShort: all data of up to seven bytes of those that matter, as of a request, an answer, and others.
func TestP18_2EveryShort(t *testing.T) {
	matter := []byte{0, 1, 2, 3, 4, 255}
	var grow func(data string, left int)
	grow = func(data string, left int) {
		checkData(t, data)
		if left == 0 {
			return
		}
		for _, b := range matter {
			grow(data+text(b), left-1)
		}
	}
	grow("", 7)
}

// TestP18_2Check: the right ones, and those of which one byte is another one, is wanting, or is too many.
func TestP18_2Check(t *testing.T) {
	x := strings.Repeat("x", 255)
	ok := pkt(1, 9, text(4, 117, 115, 101, 114, 3, 107, 101, 121))
	for _, c := range []struct {
		p            api.Packet
		name, secret string
		want         bool
	}{
		{ok, "user", "key", true},
		{pkt(1, 0, ok.Data), "user", "key", true}, // whatever its identifier is
		{ok, "user", "kex", false},
		{ok, "user", "Key", false},
		{ok, "User", "key", false},
		{ok, "usfr", "key", false},
		{ok, "user", "ke", false},
		{ok, "user", "", false},
		{ok, "user", "keyy", false},
		{ok, "use", "key", false},
		{ok, "users", "key", false},
		{ok, "", "key", false},
		{ok, "", "", false},
		{ok, "key", "user", false},
		{ok, "userkey", "", false},
		{ok, "use", "rkey", false},
		{ok, "user\x03key", "", false},
		{ok, "user", "key\x00", false},
		{pkt(1, 1, text(0, 0)), "", "", true},
		{pkt(1, 1, text(0, 0)), "\x00", "", false},
		{pkt(1, 1, text(0, 0)), "", "\x00", false},
		{pkt(1, 1, text(255)+x+text(255)+x), x, x, true},
		{pkt(1, 1, text(255)+x+text(255)+x), x, x + "x", false},
		{pkt(1, 1, text(255)+x+text(255)+x), x + "x", x, false},
		{pkt(1, 1, text(0, 0)), long(256), "", false}, // a length of 256 is none of 0
		{pkt(1, 1, text(0, 0)), "", strings.Repeat("x", 256), false},
		// What is no request, has too few bytes, or too many, has no name and no secret, also not an empty one.
		{pkt(2, 9, ok.Data), "user", "key", false},
		{pkt(3, 9, ok.Data), "user", "key", false},
		{pkt(0, 9, ok.Data), "user", "key", false},
		{pkt(1, 9, ok.Data+"\x00"), "user", "key", false},
		{pkt(1, 9, ok.Data[:8]), "user", "key", false},
		{pkt(1, 9, ok.Data[:8]), "user", "ke", false},
		{pkt(1, 9, text(4, 117, 115, 101, 114)), "user", "", false},
		{pkt(1, 9, ""), "", "", false},
		{pkt(1, 9, text(0)), "", "", false},
		{pkt(1, 9, text(0, 0, 0)), "", "", false},
		{pkt(1, 9, text(2, 97)), "", "", false},
		{pkt(2, 9, text(0, 0)), "", "", false},
		{api.Packet{}, "", "", false},
	} {
		if got := Check(c.p, c.name, c.secret); got != c.want {
			t.Errorf("Check(%.40q, %.20q, %.20q) = %v", c.p, c.name, c.secret, got)
		}
	}
}

// TestP18_2CheckEvery: each request of the texts of note, with each pair of them; as sent, with each code, and with each byte of its data changed.
func TestP18_2CheckEvery(t *testing.T) {
	l := texts()
	for i, name := range l {
		for k, secret := range l {
			p, e := Request(3, name, secret)
			if e != api.OK {
				t.Fatal(e)
			}
			for n, otherName := range l {
				for m, otherSecret := range l {
					if got := Check(p, otherName, otherSecret); got != (i == n && k == m) {
						t.Fatalf("Check(%.40q, %.20q, %.20q) = %v", p, otherName, otherSecret, got)
					}
				}
			}
			for code := range 256 {
				if got := Check(pkt(uint8(code), uint8(code), p.Data), name, secret); got != (code == 1) {
					t.Fatalf("Check with the code %d = %v", code, got)
				}
			}
			for at := range p.Data {
				other := p.Data[:at] + text(p.Data[at]^1) + p.Data[at+1:]
				if Check(pkt(1, 3, other), name, secret) {
					t.Fatalf("Check(%.40q, %.20q, %.20q) with another byte at %d", other, name, secret, at)
				}
			}
		}
	}
}

// TestP18_3Inverse: what was encoded is read again, also where the packet itself was encoded and got on the way; and what was read, encoded again, is what it was read from.
func TestP18_3Inverse(t *testing.T) {
	for _, name := range texts() {
		p, e := Answer(200, false, name)
		if well, message, wrong := Answered(throughPacket(t, p)); well || message != name || e != api.OK || wrong != api.OK {
			t.Fatalf("Answered(Answer(.., false, %.20q)) = %v, %.20q, %v, %v", name, well, message, e, wrong)
		}
		p, e = Answer(201, true, name)
		if well, message, wrong := Answered(throughPacket(t, p)); !well || message != name || e != api.OK || wrong != api.OK {
			t.Fatalf("Answered(Answer(.., true, %.20q)) = %v, %.20q, %v, %v", name, well, message, e, wrong)
		}
		for _, secret := range texts() {
			p, e := Request(199, name, secret)
			p = throughPacket(t, p)
			if n, s, wrong := Asked(p); n != name || s != secret || e != api.OK || wrong != api.OK {
				t.Fatalf("Asked(Request(.., %.20q, %.20q)) = %.20q, %.20q, %v, %v", name, secret, n, s, e, wrong)
			}
			if !Check(p, name, secret) {
				t.Fatalf("Check(Request(.., %.20q, %.20q)) fails", name, secret)
			}
		}
	}
	var grow func(data string, left int)
	grow = func(data string, left int) {
		if name, secret, e := Asked(pkt(1, 5, data)); e == api.OK {
			if p, e := Request(5, name, secret); p != pkt(1, 5, data) || e != api.OK {
				t.Fatalf("Request of what was Asked of %q = %q, %v", data, p, e)
			}
		}
		if well, message, e := Answered(pkt(3, 5, data)); e == api.OK {
			if p, e := Answer(5, well, message); p != pkt(3, 5, data) || e != api.OK {
				t.Fatalf("Answer of what was Answered of %q = %q, %v", data, p, e)
			}
		}
		for b := range byte(5) {
			if left > 0 {
				grow(data+text(b), left-1)
			}
		}
	}
	grow("", 6)
}

// throughPacket is p, encoded by layer 7 and got again.
func throughPacket(t *testing.T, p api.Packet) api.Packet {
	t.Helper()
	sent, e := packet.Put(p)
	if e != api.OK {
		t.Fatalf("a packet with %d bytes can't be encoded: %v", len(p.Data), e)
	}
	got, padding, e := packet.Get(sent)
	if got != p || padding != 0 || e != api.OK {
		t.Fatalf("%.40q is got as %.40q, %d, %v", p, got, padding, e)
	}
	return got
}

// what is what a packet was made of: who is a name, or a message.
type what struct {
	kind        string
	who, secret string
}

// TestP18_3Different: no two different names, secrets, or messages, well or not, have the same packet.
func TestP18_3Different(t *testing.T) {
	seen := map[api.Packet]what{}
	add := func(p api.Packet, e api.Errno, w what) {
		t.Helper()
		if e != api.OK {
			t.Fatalf("%.20q: %v", w, e)
		}
		if first, is := seen[p]; is && first != w {
			t.Fatalf("%.20q and %.20q are both %.40q", first, w, p)
		}
		seen[p] = w
	}
	l := texts()
	for n := range 256 {
		l = append(l, text(byte(n)), long(n), strings.Repeat("a", n))
	}
	for _, who := range l {
		for _, well := range []bool{true, false} {
			p, e := Answer(1, well, who)
			add(p, e, what{kind: map[bool]string{true: "ack", false: "nak"}[well], who: who})
		}
		for _, secret := range l {
			p, e := Request(1, who, secret)
			add(p, e, what{"request", who, secret})
		}
	}
}

// TestP18_3Truncated: no packet of which bytes of Data are cut off at the end is accepted, by whatever reads it.
func TestP18_3Truncated(t *testing.T) {
	refused := func(p api.Packet, n int) {
		t.Helper()
		p.Data = p.Data[:n]
		if p.Code == 1 {
			if name, secret, e := Asked(p); name != "" || secret != "" || e != api.ErrEnd {
				t.Fatalf("Asked(%.40q), cut to %d = %.20q, %.20q, %v", p, n, name, secret, e)
			}
			return
		}
		if well, message, e := Answered(p); well || message != "" || e != api.ErrEnd {
			t.Fatalf("Answered(%.40q), cut to %d = %v, %.20q, %v", p, n, well, message, e)
		}
	}
	for _, name := range texts() {
		for _, well := range []bool{true, false} {
			p, _ := Answer(1, well, name)
			for n := range len(p.Data) {
				refused(p, n)
			}
		}
		for _, secret := range texts() {
			p, _ := Request(1, name, secret)
			for n := range len(p.Data) {
				refused(p, n)
				left := secret[:max(n-len(name)-2, 0)] // what is there of it
				if cut := pkt(1, 1, p.Data[:n]); Check(cut, name, secret) || Check(cut, name, left) {
					t.Fatalf("Check(%.40q), cut to %d", p, n)
				}
			}
		}
	}
}
