// Package octet encodes numbers and strings as bytes, big-endian.
package octet

import "halyard/api"

// Put16 returns the two bytes of v.
func Put16(v uint16) string {
	b := [2]byte{byte(v >> 8), byte(v)}
	return string(b[:])
}

// Get16 returns the number whose two bytes s is.
func Get16(s string) (uint16, api.Errno) {
	if e := hasExactly(s, 2); e != api.OK {
		return 0, e
	}
	return uint16(s[0])<<8 | uint16(s[1]), api.OK
}

// Put32 returns the four bytes of v.
func Put32(v uint32) string {
	b := [4]byte{byte(v >> 24), byte(v >> 16), byte(v >> 8), byte(v)}
	return string(b[:])
}

// Get32 returns the number whose four bytes s is.
func Get32(s string) (uint32, api.Errno) {
	if e := hasExactly(s, 4); e != api.OK {
		return 0, e
	}
	return uint32(s[0])<<24 | uint32(s[1])<<16 | uint32(s[2])<<8 | uint32(s[3]), api.OK
}

// hasExactly tells too few bytes from too many: a caller may wait for more of
// the former, but never of the latter.
func hasExactly(s string, n int) api.Errno {
	if len(s) < n {
		return api.ErrEnd
	}
	if len(s) > n {
		return api.ErrForm
	}
	return api.OK
}

// Cut returns the first n bytes of s, and the rest.
func Cut(s string, n int) (front, rest string, e api.Errno) {
	if n < 0 {
		return "", "", api.ErrArg
	}
	if len(s) < n {
		return "", "", api.ErrEnd
	}
	return s[:n], s[n:], api.OK
}

// Text8 returns the encoding of s: its length, one byte, and its bytes.
func Text8(s string) (string, api.Errno) {
	return Join8(s)
}

// Read8 returns the string whose encoding begins s, and what comes after it.
func Read8(s string) (text, rest string, e api.Errno) {
	if s == "" {
		return "", "", api.ErrEnd
	}
	return Cut(s[1:], int(s[0]))
}

// Join8 returns the encodings of the strings, one after the other.
func Join8(l ...string) (string, api.Errno) {
	var out []byte
	for _, s := range l {
		// A greater length would not fit into its one byte.
		if len(s) > api.MaxText8 {
			return "", api.ErrLong
		}
		out = append(out, byte(len(s)))
		out = append(out, s...)
	}
	return string(out), api.OK
}

// Split8 returns the strings whose encodings, one after the other, s is.
func Split8(s string) ([]string, api.Errno) {
	rest := s
	next := func() (text string, e api.Errno) {
		text, rest, e = Read8(rest)
		return text, e
	}
	var l []string
	for rest != "" {
		text, e := next()
		if e != api.OK {
			// What was read before is not handed out beside an error (R2).
			return nil, e
		}
		l = append(l, text)
	}
	return l, api.OK
}
