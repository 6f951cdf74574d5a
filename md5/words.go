package md5

import "math/bits"

const (
	numbers = 16 // of a block, and steps of a round
	steps   = 64 // of a block
)

// sines has the constant of each step: the sine of its number, from 1 on, in
// radians, without its sign and in parts of 2^32. They are written out since a
// machine's own sines need not be exact in all these bits.
var sines = [steps]uint32{
	0xd76aa478, 0xe8c7b756, 0x242070db, 0xc1bdceee, 0xf57c0faf, 0x4787c62a, 0xa8304613, 0xfd469501,
	0x698098d8, 0x8b44f7af, 0xffff5bb1, 0x895cd7be, 0x6b901122, 0xfd987193, 0xa679438e, 0x49b40821,
	0xf61e2562, 0xc040b340, 0x265e5a51, 0xe9b6c7aa, 0xd62f105d, 0x02441453, 0xd8a1e681, 0xe7d3fbc8,
	0x21e1cde6, 0xc33707d6, 0xf4d50d87, 0x455a14ed, 0xa9e3e905, 0xfcefa3f8, 0x676f02d9, 0x8d2a4c8a,
	0xfffa3942, 0x8771f681, 0x6d9d6122, 0xfde5380c, 0xa4beea44, 0x4bdecfa9, 0xf6bb4b60, 0xbebfbc70,
	0x289b7ec6, 0xeaa127fa, 0xd4ef3085, 0x04881d05, 0xd9d4d039, 0xe6db99e5, 0x1fa27cf8, 0xc4ac5665,
	0xf4292244, 0x432aff97, 0xab9423a7, 0xfc93a039, 0x655b59c3, 0x8f0ccc92, 0xffeff47d, 0x85845dd1,
	0x6fa87e4f, 0xfe2ce6e0, 0xa3014314, 0x4e0811a1, 0xf7537e82, 0xbd3af235, 0x2ad7d2bb, 0xeb86d391,
}

// turns has by how many bits a word is turned at the steps of each round, four by four.
var turns = [4][4]int{
	{7, 12, 17, 22},
	{5, 9, 14, 20},
	{4, 11, 16, 23},
	{6, 10, 15, 21},
}

// words are the four words that become the digest.
type words [4]uint32

// first returns the words ahead of the first block.
func first() words {
	return words{0x67452301, 0xefcdab89, 0x98badcfe, 0x10325476}
}

// mix processes a block.
func (w *words) mix(block [blockSize]byte) {
	before := *w
	rounds := w.rounds(split(block))
	for i := range steps {
		k := i / numbers
		w.step(rounds[k](i)+sines[i], turns[k][i%4])
	}
	for i, word := range before {
		w[i] += word
	}
}

// rounds returns what each round adds at a step: three of the words, joined,
// and one number of the block, which each round takes in another order.
func (w *words) rounds(x [numbers]uint32) []func(i int) uint32 {
	return []func(i int) uint32{
		func(i int) uint32 { return (w[1]&w[2] | ^w[1]&w[3]) + x[i%numbers] },
		func(i int) uint32 { return (w[1]&w[3] | w[2]&^w[3]) + x[(5*i+1)%numbers] },
		func(i int) uint32 { return (w[1] ^ w[2] ^ w[3]) + x[(3*i+5)%numbers] },
		func(i int) uint32 { return (w[2] ^ (w[1] | ^w[3])) + x[7*i%numbers] },
	}
}

// step adds to the first word, turns it, and adds the second; the words then
// move up by one, so that each step works on the first.
func (w *words) step(plus uint32, turn int) {
	sum := w[1] + bits.RotateLeft32(w[0]+plus, turn)
	*w = words{w[3], sum, w[1], w[2]}
}

// split returns the numbers of a block, the lowest byte of each first.
func split(block [blockSize]byte) [numbers]uint32 {
	var x [numbers]uint32
	for i, b := range block {
		x[i/4] |= uint32(b) << (8 * (i % 4))
	}
	return x
}

// text returns the words as bytes, the lowest byte of each first.
func (w *words) text() string {
	var out []byte
	for _, word := range w {
		out = append(out, byte(word), byte(word>>8), byte(word>>16), byte(word>>24))
	}
	return string(out)
}
