package hash

const (
	width = 40 // bits of a check
	full  = 1<<width - 1
)

// Crc is a message whose check is computed piece by piece.
type Crc struct{ register uint64 }

// BeginCrc returns a Crc whose message is empty.
func BeginCrc() Crc { return Crc{full} }

// Add returns a Crc with a longer message.
func (c Crc) Add(text string) Crc {
	for i := range len(text) {
		c = c.addByte(text[i])
	}
	return c
}

// Value returns the check of the message.
func (c Crc) Value() int { return int(c.register ^ full) }

// Crc40 returns the check of b.
func Crc40(b []byte) int { return BeginCrc().Add(string(b)).Value() }

// Words returns the check of a list of words, of whose lowest 40 bits it consists.
func Words(l []int) int {
	c := BeginCrc()
	for _, n := range l {
		for shift := width - 8; shift >= 0; shift -= 8 {
			c = c.addByte(byte(n >> shift))
		}
	}
	return c.Value()
}

// Join returns the check of two consecutive messages: a is that of the first one, b that of the second one, of n bytes.
func Join(a, b, n int) int {
	if n < 0 {
		return 0
	}
	moved := uint64(a) & full
	factor := uint64(1 << 8) // x^8, and its squares
	for ; n > 0; n >>= 1 {   // 8 * n may not fit
		if n&1 == 1 {
			moved = multiply(moved, factor)
		}
		factor = multiply(factor, factor)
	}
	return int(moved ^ uint64(b)&full)
}

func (c Crc) addByte(b byte) Crc {
	return Crc{raise(c.register^uint64(b)<<(width-8), 8)}
}

// raise returns a * x^n modulo the polynomial, for n from 0 to 14: for no more bits than that, what comes in place of them needs no second reduction.
func raise(a uint64, n int) uint64 {
	out := a >> (width - n)
	return a<<n&full ^ out<<26 ^ out<<23 ^ out<<17 ^ out<<3 ^ out
}

// multiply returns a * b modulo the polynomial.
func multiply(a, b uint64) uint64 {
	product := uint64(0)
	for ; b > 0; b >>= 1 {
		if b&1 == 1 {
			product ^= a
		}
		a = raise(a, 1)
	}
	return product
}
