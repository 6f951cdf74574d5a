package chap

import (
	"crypto/md5"
	"encoding/hex"
	"strings"
	"testing"

	"halyard/api"
	"halyard/packet"
)

// text is these bytes as a string.
func text(l ...byte) string { return string(l) }

// long is a string of so many bytes, of which no two that are near to each other are the same.
func long(n int) string {
	l := make([]byte, n)
	for i := range l {
		l[i] = byte(i*7 + i/256)
	}
	return string(l)
}

// encoding is layer 1's definition: the length, one byte, and the bytes.
func encoding(s string) string { return text(byte(len(s))) + s }

// pkt is a packet.
func pkt(code, id uint8, data string) api.Packet { return api.Packet{Code: code, Id: id, Data: data} }

// unhex is the bytes of these digits.
func unhex(t *testing.T, digits string) string {
	t.Helper()
	l, err := hex.DecodeString(digits)
	if err != nil {
		t.Fatal(err)
	}
	return string(l)
}

// toProof is the chapter's words on the value of a response, by the digest of Go's library.
func toProof(id uint8, secret, value string) string {
	sum := md5.Sum([]byte(text(id) + secret + value))
	return string(sum[:])
}

// wrongTo is the chapter's words on what can't be a challenge's value, or its name, or a response's.
func wrongTo(value, name string) api.Errno {
	switch {
	case len(value) < 1 || len(value) > 255:
		return api.ErrArg
	case len(name) > 255:
		return api.ErrLong
	}
	return api.OK
}

// toChallenge is the chapter's words on Challenge.
func toChallenge(id uint8, value, name string) (api.Packet, api.Errno) {
	if e := wrongTo(value, name); e != api.OK {
		return api.Packet{}, e
	}
	return pkt(1, id, encoding(value)+name), api.OK
}

// toResponse is the chapter's words on Response.
func toResponse(id uint8, secret, value, name string) (api.Packet, api.Errno) {
	if e := wrongTo(value, name); e != api.OK {
		return api.Packet{}, e
	}
	return pkt(2, id, text(16)+toProof(id, secret, value)+name), api.OK
}

// toAnswer is the chapter's words on Answer.
func toAnswer(id uint8, well bool, message string) (api.Packet, api.Errno) {
	if len(message) > 255 {
		return api.Packet{}, api.ErrLong
	}
	if well {
		return pkt(3, id, message), api.OK
	}
	return pkt(4, id, message), api.OK
}

// toRead is the chapter's words on Read.
func toRead(p api.Packet) (value, name string, e api.Errno) {
	if p.Code != 1 && p.Code != 2 {
		return "", "", api.ErrType
	}
	if len(p.Data) < 1 || len(p.Data) < 1+int(p.Data[0]) {
		return "", "", api.ErrEnd
	}
	ends := 1 + int(p.Data[0])
	if ends == 1 {
		return "", "", api.ErrForm
	}
	if len(p.Data)-ends > 255 {
		return "", "", api.ErrLong
	}
	return p.Data[1:ends], p.Data[ends:], api.OK
}

// toAnswered is the chapter's words on Answered.
func toAnswered(p api.Packet) (well bool, message string, e api.Errno) {
	if p.Code != 3 && p.Code != 4 {
		return false, "", api.ErrType
	}
	if len(p.Data) > 255 {
		return false, "", api.ErrLong
	}
	return p.Code == 3, p.Data, api.OK
}

// toCheck is the chapter's words on Check.
func toCheck(p api.Packet, id uint8, secret, value string) bool {
	has, _, e := toRead(p)
	return e == api.OK && p.Code == 2 && p.Id == id && has == toProof(id, secret, value)
}

// checkMade holds Challenge, and Response for the secret, against the chapter's words.
func checkMade(t *testing.T, id uint8, secret, value, name string) {
	t.Helper()
	want, wantErr := toChallenge(id, value, name)
	if p, e := Challenge(id, value, name); p != want || e != wantErr {
		t.Fatalf("Challenge(%d, %.20q, %.20q), of %d and %d bytes, = %.40q, %v, want %.40q, %v", id, value, name, len(value), len(name), p, e, want, wantErr)
	}
	want, wantErr = toResponse(id, secret, value, name)
	if p, e := Response(id, secret, value, name); p != want || e != wantErr {
		t.Fatalf("Response(%d, %.20q, %.20q, %.20q), of %d, %d and %d bytes, = %.40q, %v, want %.40q, %v", id, secret, value, name, len(secret), len(value), len(name), p, e, want, wantErr)
	}
}

// checkAnswer holds Answer against the chapter's words, well and not.
func checkAnswer(t *testing.T, id uint8, message string) {
	t.Helper()
	for _, well := range []bool{true, false} {
		want, wantErr := toAnswer(id, well, message)
		if p, e := Answer(id, well, message); p != want || e != wantErr {
			t.Fatalf("Answer(%d, %v, %.20q), of %d bytes, = %.40q, %v, want %.40q, %v", id, well, message, len(message), p, e, want, wantErr)
		}
	}
}

// checkRead holds Read and Answered, of any packet, against the chapter's words.
func checkRead(t *testing.T, p api.Packet) {
	t.Helper()
	wantValue, wantName, wantErr := toRead(p)
	if value, name, e := Read(p); value != wantValue || name != wantName || e != wantErr {
		t.Fatalf("Read(%.40q), of %d bytes, = %.20q, %.20q, %v, want %.20q, %.20q, %v", p, len(p.Data), value, name, e, wantValue, wantName, wantErr)
	}
	wantWell, wantMessage, wantErr := toAnswered(p)
	if well, message, e := Answered(p); well != wantWell || message != wantMessage || e != wantErr {
		t.Fatalf("Answered(%.40q), of %d bytes, = %v, %.20q, %v, want %v, %.20q, %v", p, len(p.Data), well, message, e, wantWell, wantMessage, wantErr)
	}
}

// checkCheck holds Check against the chapter's words.
func checkCheck(t *testing.T, p api.Packet, id uint8, secret, value string) {
	t.Helper()
	want := toCheck(p, id, secret, value)
	if got := Check(p, id, secret, value); got != want {
		t.Fatalf("Check(%.40q, %d, %.20q, %.20q) = %v", p, id, secret, value, got)
	}
}

// texts are empty, short and long ones, those whose bytes look like encodings, and all bytes, each of at most 255.
func texts() []string {
	l := []string{
		"", "a", "b", "ab", "ba", "A", "user", "\x00", "\x00\x00", "\x01", "\x01a", "\x02ab", "\x01a\x00", "\xff", "\n", " ",
		"\xc3\xa9\xe2\x82\xac", "\xfe\x80\xff", "aa", "a\x00", "\x00a", long(16), long(254), long(255), strings.Repeat("\x00", 255), strings.Repeat("\xff", 255),
	}
	var every [255]byte
	for i := range every {
		every[i] = byte(i + 1)
	}
	return append(l, string(every[:]))
}

// TestP19_1ChallengeKnown: the chapter's example, and others whose bytes are written out.
func TestP19_1ChallengeKnown(t *testing.T) {
	x := strings.Repeat("x", 255)
	for _, c := range []struct {
		id          uint8
		value, name string
		data        string
	}{
		{1, "xy", "me", text(2, 120, 121, 109, 101)},
		{0, "x", "", text(1, 120)},
		{255, "x", "a", text(1, 120, 97)},
		{7, "me", "xy", text(2, 109, 101, 120, 121)}, // the value is ahead
		{2, "\x00", "\xff\xfe", text(1, 0, 255, 254)},
		{2, "\xc3\xa9", "\x80", text(2, 0xc3, 0xa9, 0x80)}, // bytes, not runes
		{3, "x", "\x02ab", text(1, 120, 2, 97, 98)},
		{3, x, "", text(255) + x},
		{3, "x", x, text(1, 120) + x},
		{3, x, x, text(255) + x + x},
	} {
		if p, e := Challenge(c.id, c.value, c.name); p != pkt(1, c.id, c.data) || e != api.OK {
			t.Errorf("Challenge(%d, %.20q, %.20q) = %.40q, %v", c.id, c.value, c.name, p, e)
		}
	}
}

// TestP19_1ResponseKnown: the chapter's example, and others whose digests are written out.
func TestP19_1ResponseKnown(t *testing.T) {
	x := strings.Repeat("x", 255)
	for _, c := range []struct {
		id                  uint8
		secret, value, name string
		digits              string // of the digest of what the remark says
	}{
		{1, "s", "xy", "me", "f6fa08f76c051c1a45385566b4a58edc"}, // 1 115 120 121
		{1, "s", "xy", "", "f6fa08f76c051c1a45385566b4a58edc"},   // the name is not in it
		{1, "s", "xy", x, "f6fa08f76c051c1a45385566b4a58edc"},
		{1, "xy", "s", "me", "63c4f48e436382f886fcc9de195c64ed"},              // 1 120 121 115
		{9, "secret", "value", "name", "f6e0b9fa79a4e976b39d2ed4f1454ca8"},    // 9 and "secretvalue"
		{0, "", "\x00", "\xc3\xa9", "c4103f122d27677c9db144cae1394a66"},       // 0 0
		{255, "", "a", "\x00", "89e778576425bd513d8207f2720f7df2"},            // 255 97
		{7, "\x00\xff", "k\x80\x01", "n", "c7ba092347d5fdee631c47c37e1c5f5b"}, // 7 0 255 107 128 1
	} {
		data := text(16) + unhex(t, c.digits) + c.name
		if p, e := Response(c.id, c.secret, c.value, c.name); p != pkt(2, c.id, data) || e != api.OK {
			t.Errorf("Response(%d, %.20q, %.20q, %.20q) = %.40q, %v", c.id, c.secret, c.value, c.name, p, e)
		}
	}
}

// TestP19_1Wrong: no value, one byte too many, and many; of a name too; the value is looked at first, and nothing is beside the error (R2).
func TestP19_1Wrong(t *testing.T) {
	wrong := func(value, name string, want api.Errno) {
		t.Helper()
		if p, e := Challenge(7, value, name); p != (api.Packet{}) || e != want {
			t.Errorf("Challenge with %d and %d bytes = %.40q, %v", len(value), len(name), p, e)
		}
		for _, secret := range []string{"", "s", long(255), long(256), long(1000)} {
			if p, e := Response(7, secret, value, name); p != (api.Packet{}) || e != want {
				t.Errorf("Response with %d, %d and %d bytes = %.40q, %v", len(secret), len(value), len(name), p, e)
			}
		}
	}
	sizes := []int{256, 257, 271, 272, 511, 512, 513, 1496, 65536, 65791, 200000}
	for _, name := range append(texts(), long(256), long(512), long(200000)) {
		wrong("", name, api.ErrArg)
		for _, n := range sizes {
			wrong(long(n), name, api.ErrArg)
		}
	}
	for _, value := range texts()[1:] { // the first one is empty
		for _, n := range sizes {
			wrong(value, long(n), api.ErrLong)
		}
	}
}

// TestP19_1Secret: a secret has no limit of its own, and is all in the digest.
func TestP19_1Secret(t *testing.T) {
	for _, n := range []int{0, 1, 54, 55, 56, 63, 64, 119, 120, 254, 255, 256, 257, 1000, 65536, 200000} {
		checkMade(t, 3, long(n), "value", "name")
		checkMade(t, 3, long(n)+"x", "value", "name")
	}
}

// TestP19_1Every: each identifier, each length of each on both sides of the limits, and each byte, against the chapter's words, twice: the answer is the same (R6).
func TestP19_1Every(t *testing.T) {
	for range 2 {
		for id := range 256 {
			checkMade(t, uint8(id), "s", "xy", "me")
			checkMade(t, uint8(id), text(byte(id)), text(byte(id)), text(byte(id)))
			checkMade(t, 5, "s", long(256+id), text(byte(id)))
			checkMade(t, 5, "s", text(byte(id)), long(256+id))
			checkMade(t, 5, long(id), "v", "n")
		}
		for n := range 300 {
			for _, m := range []int{0, 1, 2, 127, 128, 254, 255, 256, 257, n, max(n-1, 0)} {
				checkMade(t, 1, "s", long(n), long(m))
				checkMade(t, 1, "s", long(m), long(n))
			}
		}
		for _, value := range texts() {
			for _, name := range texts() {
				checkMade(t, 3, "secret", value, name)
				checkMade(t, 3, name, value, "")
			}
		}
	}
}

// TestP19_2ReadKnown: the chapter's examples, and others that are written out; nothing beside an error (R2).
func TestP19_2ReadKnown(t *testing.T) {
	x := strings.Repeat("x", 255)
	for _, c := range []struct {
		p           api.Packet
		value, name string
		e           api.Errno
	}{
		{pkt(1, 1, text(2, 120, 121, 109, 101)), "xy", "me", api.OK},
		{pkt(2, 1, text(2, 120, 121, 109, 101)), "xy", "me", api.OK}, // a response's value may have any number of bytes here
		{pkt(1, 1, text(3, 120)), "", "", api.ErrEnd},
		{pkt(1, 1, text(0)), "", "", api.ErrForm},
		{pkt(2, 0, text(1, 120)), "x", "", api.OK},
		{pkt(1, 255, text(1, 0, 0)), "\x00", "\x00", api.OK},
		{pkt(1, 9, text(1, 120, 2, 97)), "x", "\x02a", api.OK}, // a name has no length ahead
		{pkt(1, 9, text(255)+x), x, "", api.OK},
		{pkt(2, 9, text(255)+x+x), x, x, api.OK},
		{pkt(1, 9, text(1, 120)+x), "x", x, api.OK},
		// A byte is wanting: of the value's length, of the value.
		{pkt(1, 1, ""), "", "", api.ErrEnd},
		{pkt(2, 1, ""), "", "", api.ErrEnd},
		{pkt(1, 1, text(1)), "", "", api.ErrEnd},
		{pkt(2, 1, text(2, 97)), "", "", api.ErrEnd},
		{pkt(2, 1, text(255)+x[1:]), "", "", api.ErrEnd},
		// The value is empty, whatever follows it, also a name that is too long.
		{pkt(2, 1, text(0)), "", "", api.ErrForm},
		{pkt(1, 1, text(0, 0)), "", "", api.ErrForm},
		{pkt(2, 1, text(0)+x), "", "", api.ErrForm},
		{pkt(1, 1, text(0)+x+"x"), "", "", api.ErrForm},
		{pkt(1, 1, text(0)+long(70000)), "", "", api.ErrForm},
		// The name is too long.
		{pkt(1, 1, text(1, 120)+x+"x"), "", "", api.ErrLong},
		{pkt(2, 1, text(1, 120)+x+"x"), "", "", api.ErrLong},
		{pkt(2, 1, text(255)+x+x+"x"), "", "", api.ErrLong},
		{pkt(1, 1, text(1, 120)+long(511)), "", "", api.ErrLong},
		{pkt(1, 1, text(1, 120)+long(512)), "", "", api.ErrLong},
		{pkt(1, 1, text(16)+long(70000)), "", "", api.ErrLong},
		// The code is looked at first.
		{pkt(0, 1, text(1, 120)), "", "", api.ErrType},
		{pkt(3, 1, text(1, 120)), "", "", api.ErrType},
		{pkt(4, 1, ""), "", "", api.ErrType},
		{pkt(4, 1, text(0)), "", "", api.ErrType},
		{pkt(5, 1, text(1, 120)+x+"x"), "", "", api.ErrType},
		{pkt(255, 1, text(3, 120)), "", "", api.ErrType},
		{api.Packet{}, "", "", api.ErrType},
	} {
		if value, name, e := Read(c.p); value != c.value || name != c.name || e != c.e {
			t.Errorf("Read(%.40q) = %.20q, %.20q, %v, want %.20q, %.20q, %v", c.p, value, name, e, c.value, c.name, c.e)
		}
	}
}

// TestP19_2ReadEvery: each code with each identifier, and each length of a value with any number of bytes behind it, about where it ends, and where a name is too long.
func TestP19_2ReadEvery(t *testing.T) {
	x := long(520)
	for code := range 256 {
		for id := range 256 {
			for _, data := range []string{text(2, 97, 98, 99), text(2, 97), text(0, 0), text(0), "", text(1) + x[:256], text(1) + x[:257]} {
				checkRead(t, pkt(uint8(code), uint8(id), data))
			}
		}
	}
	for length := range 256 {
		for there := range 521 {
			checkRead(t, pkt(1, 1, text(byte(length))+x[:there]))
			checkRead(t, pkt(2, 1, text(byte(length))+x[:there]))
		}
	}
}

// TestP19_2EveryShort: all data of up to seven bytes of those that matter, with each code of note.
func TestP19_2EveryShort(t *testing.T) {
	matter := []byte{0, 1, 2, 3, 4, 255}
	var grow func(data string, left int)
	grow = func(data string, left int) {
		for _, code := range []uint8{0, 1, 2, 3, 4, 5, 255} {
			checkRead(t, pkt(code, 9, data))
		}
		if left == 0 {
			return
		}
		for _, b := range matter {
			grow(data+text(b), left-1)
		}
	}
	grow("", 7)
}

// TestP19_2AnswerKnown: some that are written out; a message has no length ahead.
func TestP19_2AnswerKnown(t *testing.T) {
	x := strings.Repeat("x", 255)
	for _, c := range []struct {
		id      uint8
		well    bool
		message string
		want    api.Packet
	}{
		{3, true, "", pkt(3, 3, "")},
		{3, false, "", pkt(4, 3, "")},
		{0, true, "hi", pkt(3, 0, text(104, 105))},
		{255, false, "hi", pkt(4, 255, text(104, 105))},
		{1, true, "\x00\xff", pkt(3, 1, text(0, 255))},
		{1, false, "\xc3\xa9", pkt(4, 1, text(0xc3, 0xa9))}, // bytes, not runes
		{9, true, x, pkt(3, 9, x)},
		{9, false, x, pkt(4, 9, x)},
	} {
		if p, e := Answer(c.id, c.well, c.message); p != c.want || e != api.OK {
			t.Errorf("Answer(%d, %v, %.20q) = %.40q, %v", c.id, c.well, c.message, p, e)
		}
	}
}

// TestP19_2AnswerLong: one byte too many, and many, with nothing beside the error (R2).
func TestP19_2AnswerLong(t *testing.T) {
	for _, n := range []int{256, 257, 511, 512, 513, 1496, 65536, 65791, 200000} {
		for _, well := range []bool{true, false} {
			if p, e := Answer(7, well, long(n)); p != (api.Packet{}) || e != api.ErrLong {
				t.Errorf("Answer with %d bytes = %.40q, %v", n, p, e)
			}
		}
	}
}

// TestP19_2AnswerEvery: each identifier, each length on both sides of the limit, and each text of note, against the chapter's words, twice: the answer is the same (R6).
func TestP19_2AnswerEvery(t *testing.T) {
	for range 2 {
		for id := range 256 {
			checkAnswer(t, uint8(id), "hi")
			checkAnswer(t, uint8(id), text(byte(id)))
		}
		for n := range 1000 {
			checkAnswer(t, 1, long(n))
		}
		for _, message := range texts() {
			checkAnswer(t, 3, message)
		}
	}
}

// TestP19_2AnsweredKnown: some that are written out; nothing beside an error, also not that it is well (R2).
func TestP19_2AnsweredKnown(t *testing.T) {
	x := strings.Repeat("x", 255)
	for _, c := range []struct {
		p       api.Packet
		well    bool
		message string
		e       api.Errno
	}{
		{pkt(3, 3, ""), true, "", api.OK},
		{pkt(4, 3, ""), false, "", api.OK},
		{pkt(3, 0, "hi"), true, "hi", api.OK},
		{pkt(4, 255, "hi"), false, "hi", api.OK},
		{pkt(3, 1, text(0)), true, "\x00", api.OK},
		{pkt(4, 1, text(9, 104)), false, "\x09h", api.OK}, // that is no length
		{pkt(3, 1, x), true, x, api.OK},
		{pkt(4, 1, x), false, x, api.OK},
		// It is too long.
		{pkt(3, 1, x+"x"), false, "", api.ErrLong},
		{pkt(4, 1, x+"x"), false, "", api.ErrLong},
		{pkt(3, 1, text(255)+x), false, "", api.ErrLong},
		{pkt(3, 1, long(512)), false, "", api.ErrLong},
		{pkt(4, 1, long(70000)), false, "", api.ErrLong},
		// The code is looked at first.
		{pkt(1, 1, "hi"), false, "", api.ErrType},
		{pkt(2, 1, x+"x"), false, "", api.ErrType},
		{pkt(0, 1, ""), false, "", api.ErrType},
		{pkt(5, 1, "hi"), false, "", api.ErrType},
		{pkt(255, 1, ""), false, "", api.ErrType},
		{api.Packet{}, false, "", api.ErrType},
	} {
		if well, message, e := Answered(c.p); well != c.well || message != c.message || e != c.e {
			t.Errorf("Answered(%.40q) = %v, %.20q, %v, want %v, %.20q, %v", c.p, well, message, e, c.well, c.message, c.e)
		}
	}
}

// TestP19_2AnsweredEvery: each length of a message with each code of note.
func TestP19_2AnsweredEvery(t *testing.T) {
	x := long(1000)
	for n := range 1001 {
		for _, code := range []uint8{0, 1, 2, 3, 4, 5, 255} {
			checkRead(t, pkt(code, 1, x[:n]))
		}
	}
}

// TestP19_3Check: the right ones, and those in which something is another one, is wanting, or is too much.
func TestP19_3Check(t *testing.T) {
	is := unhex(t, "f6e0b9fa79a4e976b39d2ed4f1454ca8") // the digest of 9 and "secretvalue"
	ok := pkt(2, 9, text(16)+is+"name")
	x := strings.Repeat("x", 255)
	empty := unhex(t, "c4103f122d27677c9db144cae1394a66") // the digest of 0 0
	for _, c := range []struct {
		p             api.Packet
		id            uint8
		secret, value string
		want          bool
	}{
		{ok, 9, "secret", "value", true},
		{pkt(2, 9, text(16)+is), 9, "secret", "value", true}, // whatever the name is
		{pkt(2, 9, text(16)+is+x), 9, "secret", "value", true},
		{pkt(2, 0, text(16)+empty), 0, "", "\x00", true},
		{pkt(2, 0, text(16)+empty), 0, "\x00", "\x00", false},
		// Another identifier, there, or asked for, or both of them.
		{ok, 8, "secret", "value", false},
		{pkt(2, 8, ok.Data), 9, "secret", "value", false},
		{pkt(2, 8, ok.Data), 8, "secret", "value", false},
		{ok, 0, "secret", "value", false},
		// Another secret, or value.
		{ok, 9, "secres", "value", false},
		{ok, 9, "Secret", "value", false},
		{ok, 9, "secre", "value", false},
		{ok, 9, "", "value", false},
		{ok, 9, "secret", "valuf", false},
		{ok, 9, "secret", "values", false},
		{ok, 9, "secret", "valu", false},
		{ok, 9, "secret", "", false},
		{ok, 9, "value", "secret", false},
		{ok, 9, "secret", "value\x00", false},
		{ok, 9, "secret", is, false},
		// No response, though the data is one's.
		{pkt(1, 9, ok.Data), 9, "secret", "value", false},
		{pkt(0, 9, ok.Data), 9, "secret", "value", false},
		{pkt(3, 9, ok.Data), 9, "secret", "value", false},
		{pkt(4, 9, ok.Data), 9, "secret", "value", false},
		{pkt(255, 9, ok.Data), 9, "secret", "value", false},
		// Data that Read does not accept, or with another value.
		{pkt(2, 9, text(16)+is+x+"x"), 9, "secret", "value", false},
		{pkt(2, 9, text(17)+is), 9, "secret", "value", false},
		{pkt(2, 9, text(17)+is+"n"), 9, "secret", "value", false},
		{pkt(2, 9, text(15)+is), 9, "secret", "value", false},
		{pkt(2, 9, text(16)+is[1:]+"n"), 9, "secret", "value", false},
		{pkt(2, 9, text(16)+is[1:]), 9, "secret", "value", false},
		{pkt(2, 9, text(1, 120)), 9, "secret", "value", false},
		{pkt(2, 9, text(5)+"value"), 9, "secret", "value", false},
		{pkt(2, 9, text(6)+"secret"), 9, "secret", "value", false},
		{pkt(2, 9, text(0)), 9, "secret", "value", false},
		{pkt(2, 9, text(0)), 9, "", "", false},
		{pkt(2, 9, ""), 9, "", "", false},
		{pkt(2, 9, is), 9, "secret", "value", false},
		{api.Packet{}, 0, "", "", false},
	} {
		if got := Check(c.p, c.id, c.secret, c.value); got != c.want {
			t.Errorf("Check(%.40q, %d, %.20q, %.20q) = %v", c.p, c.id, c.secret, c.value, got)
		}
	}
}

// TestP19_3CheckJoined: secret and value are joined ahead of the digest, so that what is cut elsewhere is the same to Check, as by the definition.
func TestP19_3CheckJoined(t *testing.T) {
	p, _ := Response(9, "ab", "cd", "")
	for _, c := range [][2]string{{"a", "bcd"}, {"abc", "d"}, {"", "abcd"}} {
		if !Check(p, 9, c[0], c[1]) {
			t.Errorf("Check with %q and %q", c[0], c[1])
		}
	}
}

// TestP19_3CheckEvery: each response for the texts of note, with each pair of them; as sent, with each code, with each identifier, and with each byte of its value and its length changed.
func TestP19_3CheckEvery(t *testing.T) {
	l := texts()
	for _, secret := range l {
		for _, value := range l[1:] { // the first one is empty
			p, e := Response(3, secret, value, "n")
			if e != api.OK {
				t.Fatal(e)
			}
			for _, other := range l {
				checkCheck(t, p, 3, secret, other)
				checkCheck(t, p, 3, other, value)
			}
			for n := range 256 {
				if got := Check(pkt(uint8(n), 3, p.Data), 3, secret, value); got != (n == 2) {
					t.Fatalf("Check with the code %d = %v", n, got)
				}
				if got := Check(pkt(2, uint8(n), p.Data), 3, secret, value); got != (n == 3) {
					t.Fatalf("Check with the identifier %d = %v", n, got)
				}
			}
			for at := range 17 {
				other := p.Data[:at] + text(p.Data[at]^1) + p.Data[at+1:]
				if Check(pkt(2, 3, other), 3, secret, value) {
					t.Fatalf("Check(%.40q, .., %.20q, %.20q) with another byte at %d", other, secret, value, at)
				}
			}
		}
	}
}

// TestP19_3CheckId: each identifier in the packet with each that is asked for, and the value of a response with each: all three must be the same.
func TestP19_3CheckId(t *testing.T) {
	for in := range 256 {
		value := text(16) + toProof(uint8(in), "s", "xy")
		for id := range 256 {
			if got := Check(pkt(2, uint8(id), value), uint8(id), "s", "xy"); got != (in == id) {
				t.Fatalf("Check of the value with %d, with the identifier %d = %v", in, id, got)
			}
			if got := Check(pkt(2, uint8(in), value), uint8(id), "s", "xy"); got != (in == id) {
				t.Fatalf("Check of the identifier %d, asked for %d = %v", in, id, got)
			}
		}
	}
}

// throughPacket is p, encoded by layer 7 and got again.
func throughPacket(t *testing.T, p api.Packet) api.Packet {
	t.Helper()
	sent, e := packet.Put(p)
	if e != api.OK {
		t.Fatalf("a packet with %d bytes can't be encoded: %v", len(p.Data), e)
	}
	got, padding, e := packet.Get(sent)
	if got != p || padding != 0 || e != api.OK {
		t.Fatalf("%.40q is got as %.40q, %d, %v", p, got, padding, e)
	}
	return got
}

// TestP19_4Inverse: what was encoded is read again, also where the packet itself was encoded and got on the way.
func TestP19_4Inverse(t *testing.T) {
	for _, name := range texts() {
		for _, well := range []bool{true, false} {
			p, e := Answer(200, well, name)
			if got, message, wrong := Answered(throughPacket(t, p)); got != well || message != name || e != api.OK || wrong != api.OK {
				t.Fatalf("Answered(Answer(.., %v, %.20q)) = %v, %.20q, %v, %v", well, name, got, message, e, wrong)
			}
		}
		for _, value := range texts()[1:] {
			p, e := Challenge(199, value, name)
			if v, n, wrong := Read(throughPacket(t, p)); v != value || n != name || e != api.OK || wrong != api.OK {
				t.Fatalf("Read(Challenge(.., %.20q, %.20q)) = %.20q, %.20q, %v, %v", value, name, v, n, e, wrong)
			}
			p, e = Response(199, "secret", value, name)
			if v, n, wrong := Read(throughPacket(t, p)); v != toProof(199, "secret", value) || n != name || e != api.OK || wrong != api.OK {
				t.Fatalf("Read(Response(.., %.20q, %.20q)) = %.20q, %.20q, %v, %v", value, name, v, n, e, wrong)
			}
		}
	}
}

// TestP19_4Again: what was read, encoded again, is what it was read from.
func TestP19_4Again(t *testing.T) {
	var grow func(data string, left int)
	grow = func(data string, left int) {
		if value, name, e := Read(pkt(1, 5, data)); e == api.OK {
			if p, e := Challenge(5, value, name); p != pkt(1, 5, data) || e != api.OK {
				t.Fatalf("Challenge of what was Read of %q = %q, %v", data, p, e)
			}
		}
		for _, code := range []uint8{3, 4} {
			well, message, e := Answered(pkt(code, 5, data))
			if e != api.OK {
				t.Fatalf("Answered of %q: %v", data, e)
			}
			if p, e := Answer(5, well, message); p != pkt(code, 5, data) || e != api.OK {
				t.Fatalf("Answer of what was Answered of %q = %q, %v", data, p, e)
			}
		}
		for b := range byte(5) {
			if left > 0 {
				grow(data+text(b), left-1)
			}
		}
	}
	grow("", 6)
}

// TestP19_4Accepted: a challenge is sent, read, responded to, and the response is checked: with the secret it is accepted, for each identifier and each pair of a secret and a value; with another secret, or an older challenge, it is not.
func TestP19_4Accepted(t *testing.T) {
	accepted := func(id uint8, secret, value, name string) {
		t.Helper()
		asked, e := Challenge(id, value, "server")
		if e != api.OK {
			t.Fatal(e)
		}
		asked = throughPacket(t, asked)
		got, _, e := Read(asked)
		if e != api.OK {
			t.Fatal(e)
		}
		p, e := Response(asked.Id, secret, got, name)
		if e != api.OK {
			t.Fatal(e)
		}
		p = throughPacket(t, p)
		if !Check(p, id, secret, value) {
			t.Fatalf("Check(Response(%d, %.20q, %.20q, %.20q)) fails", id, secret, value, name)
		}
		if Check(p, id, secret+"!", value) || Check(p, id-1, secret, value) || Check(p, id, secret, value+"!") {
			t.Fatalf("Check of another thing than of Response(%d, %.20q, %.20q, %.20q)", id, secret, value, name)
		}
	}
	for id := range 256 {
		accepted(uint8(id), "secret", "value", "name")
		accepted(uint8(id), "", long(id + 1)[:max(id, 1)], long(id))
	}
	for _, secret := range append(texts(), long(256), long(70000)) {
		for _, value := range texts()[1:] {
			accepted(7, secret, value, "name")
			accepted(7, secret, value, secret[:min(255, len(secret))])
		}
	}
}
