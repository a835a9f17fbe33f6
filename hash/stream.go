package hash

import "math/bits"

const (
	blockSize  = 64 // bytes that are compressed at a time
	lengthSize = 8  // bytes of the length that ends the last block
	mark       = 128
)

// rounds is k of the chapter.
var rounds = [64]uint32{
	0x428a2f98, 0x71374491, 0xb5c0fbcf, 0xe9b5dba5, 0x3956c25b, 0x59f111f1, 0x923f82a4, 0xab1c5ed5,
	0xd807aa98, 0x12835b01, 0x243185be, 0x550c7dc3, 0x72be5d74, 0x80deb1fe, 0x9bdc06a7, 0xc19bf174,
	0xe49b69c1, 0xefbe4786, 0x0fc19dc6, 0x240ca1cc, 0x2de92c6f, 0x4a7484aa, 0x5cb0a9dc, 0x76f988da,
	0x983e5152, 0xa831c66d, 0xb00327c8, 0xbf597fc7, 0xc6e00bf3, 0xd5a79147, 0x06ca6351, 0x14292967,
	0x27b70a85, 0x2e1b2138, 0x4d2c6dfc, 0x53380d13, 0x650a7354, 0x766a0abb, 0x81c2c92e, 0x92722c85,
	0xa2bfe8a1, 0xa81a664b, 0xc24b8b70, 0xc76c51a3, 0xd192e819, 0xd6990624, 0xf40e3585, 0x106aa070,
	0x19a4c116, 0x1e376c08, 0x2748774c, 0x34b0bcb5, 0x391c0cb3, 0x4ed8aa4a, 0x5b9cca4f, 0x682e6ff3,
	0x748f82ee, 0x78a5636f, 0x84c87814, 0x8cc70208, 0x90befffa, 0xa4506ceb, 0xbef9a3f7, 0xc67178f2,
}

// Stream is a message that is hashed piece by piece: the value of its full blocks, the bytes after them, followed by zeros, and its length.
type Stream struct {
	value [8]uint32
	block [blockSize]byte
	size  int
}

// Begin returns a stream whose message is empty.
func Begin() Stream {
	return Stream{value: [8]uint32{0x6a09e667, 0xbb67ae85, 0x3c6ef372, 0xa54ff53a, 0x510e527f, 0x9b05688c, 0x1f83d9ab, 0x5be0cd19}}
}

// Add returns a stream with a longer message.
func (s Stream) Add(text string) Stream {
	for len(text) > 0 {
		n := copy(s.block[s.size%blockSize:], text)
		text = text[n:]
		s.size += n
		if s.size%blockSize == 0 {
			s = s.next()
		}
	}
	return s
}

// Sum returns the hash of the message.
func (s Stream) Sum() [32]byte {
	used := s.size % blockSize
	s.block[used] = mark
	if used >= blockSize-lengthSize { // the length needs a block of its own
		s = s.next()
	}
	length := uint64(s.size) * 8
	for i := range lengthSize {
		s.block[blockSize-1-i] = byte(length >> (8 * i))
	}
	s = s.next()
	var sum [32]byte
	for i := range sum {
		sum[i] = byte(s.value[i/4] >> (24 - i%4*8))
	}
	return sum
}

// Sum returns the SHA-256 hash of b.
func Sum(b []byte) [32]byte { return Begin().Add(string(b)).Sum() }

// next returns a stream whose block is compressed, and empty.
func (s Stream) next() Stream {
	s.value = compress(s.value, s.block)
	s.block = [blockSize]byte{}
	return s
}

// compress returns the hash value after a further block.
func compress(value [8]uint32, block [blockSize]byte) [8]uint32 {
	w := schedule(block)
	a, b, c, d := value[0], value[1], value[2], value[3]
	e, f, g, h := value[4], value[5], value[6], value[7]
	for t := range w {
		x := h + (rotr(e, 6) ^ rotr(e, 11) ^ rotr(e, 25)) + (e&f ^ ^e&g) + rounds[t] + w[t]
		y := (rotr(a, 2) ^ rotr(a, 13) ^ rotr(a, 22)) + (a&b ^ a&c ^ b&c)
		h, g, f, e = g, f, e, d+x
		d, c, b, a = c, b, a, x+y
	}
	for i, n := range [8]uint32{a, b, c, d, e, f, g, h} {
		value[i] += n
	}
	return value
}

// schedule returns the words w(0) to w(63) of a block.
func schedule(block [blockSize]byte) [64]uint32 {
	var w [64]uint32
	for t := range 16 {
		w[t] = uint32(block[4*t])<<24 | uint32(block[4*t+1])<<16 | uint32(block[4*t+2])<<8 | uint32(block[4*t+3])
	}
	for t := 16; t < len(w); t++ {
		early, late := w[t-15], w[t-2]
		s0 := rotr(early, 7) ^ rotr(early, 18) ^ early>>3
		s1 := rotr(late, 17) ^ rotr(late, 19) ^ late>>10
		w[t] = w[t-16] + s0 + w[t-7] + s1
	}
	return w
}

func rotr(x uint32, n int) uint32 { return bits.RotateLeft32(x, -n) }
