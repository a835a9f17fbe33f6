package hash

import (
	"math"
	"math/big"
	"math/rand/v2"
	"slices"
	"strings"
	"testing"
)

func random() *rand.Rand { return rand.New(rand.NewPCG(2, 9)) }

func randomBytes(r *rand.Rand, n int) []byte {
	b := make([]byte, n)
	for i := range b {
		b[i] = byte(r.IntN(256))
	}
	return b
}

// bitwise is the check, as the chapter words it: a register that the bits of the message go through.
func bitwise(b []byte) int {
	register := uint64(1<<40 - 1)
	for _, c := range b {
		for i := 7; i >= 0; i-- {
			f := uint64(c>>i)&1 ^ register>>39
			register = register << 1 & (1<<40 - 1)
			if f == 1 {
				register ^= 0x0004820009
			}
		}
	}
	return int(^register & (1<<40 - 1))
}

// polynomial returns x^40 + x^26 + x^23 + x^17 + x^3 + 1.
func polynomial() *big.Int {
	p := new(big.Int)
	for _, i := range []int{40, 26, 23, 17, 3, 0} {
		p.SetBit(p, i, 1)
	}
	return p
}

// reduce returns a modulo the polynomial, by long division.
func reduce(a *big.Int) *big.Int {
	a = new(big.Int).Set(a)
	for a.BitLen() > 40 {
		a.Xor(a, new(big.Int).Lsh(polynomial(), uint(a.BitLen()-41)))
	}
	return a
}

// product returns a * b modulo the polynomial.
func product(a, b *big.Int) *big.Int {
	sum := new(big.Int)
	for i := range b.BitLen() {
		if b.Bit(i) == 1 {
			sum.Xor(sum, new(big.Int).Lsh(a, uint(i)))
		}
	}
	return reduce(sum)
}

// joined is P2.3, read literally, for n from 0 on that is not great.
func joined(a, b, n int) int {
	p := new(big.Int).Lsh(big.NewInt(int64(a&(1<<40-1))), uint(8*n))
	return int(reduce(p).Int64()) ^ b&(1<<40-1)
}

func TestCrcExamples(t *testing.T) {
	for _, x := range []struct {
		b    []byte
		want int
	}{
		{nil, 0},
		{[]byte{}, 0},
		{[]byte{255}, 255},
		{[]byte{255, 255}, 65535},
		{[]byte{254}, 0x00048200f6},
		{[]byte{255, 255, 255, 255, 255}, 1<<40 - 1},
	} {
		if n := Crc40(x.b); n != x.want {
			t.Errorf("P2.1: Crc40(%v) = %x, want %x", x.b, n, x.want)
		}
	}
	if n := BeginCrc().Value(); n != 0 {
		t.Errorf("P2.1: the check of an empty message is %x", n)
	}
	if n := BeginCrc().Add("").Value(); n != 0 {
		t.Errorf("P2.1: the check of an empty message, added to one, is %x", n)
	}
}

func TestCrcIsTheRegister(t *testing.T) {
	check := func(b []byte) {
		before := slices.Clone(b)
		n := Crc40(b)
		if want := bitwise(before); n != want {
			t.Fatalf("P2.1: Crc40(%v) = %x, want %x", before, n, want)
		}
		if n < 0 || n > 1<<40-1 {
			t.Fatalf("P2.1: Crc40(%v) = %x is out of its range", before, n)
		}
		if !slices.Equal(b, before) {
			t.Fatalf("Crc40 changes %v to %v", before, b)
		}
		if m := BeginCrc().Add(string(b)).Value(); m != n {
			t.Fatalf("P2.1: the value %x, and Crc40 %x", m, n)
		}
	}
	for i := range 1 << 16 {
		check([]byte{byte(i)})
		check([]byte{byte(i >> 8), byte(i)})
	}
	r := random()
	for n := range 300 {
		check(make([]byte, n))
		check([]byte(strings.Repeat("\xff", n)))
		for range 20 {
			check(randomBytes(r, n))
		}
	}
	check(randomBytes(r, 1<<20))
}

func TestCrcPieces(t *testing.T) {
	r := random()
	for range 2000 {
		b := randomBytes(r, r.IntN(100))
		c := BeginCrc()
		for at := 0; at < len(b); {
			n := r.IntN(len(b) - at + 1)
			c = c.Add(string(b[at : at+n]))
			at += n
			if want := bitwise(b[:at]); c.Value() != want {
				t.Fatalf("P2.9: the check of %v in pieces is %x, want %x", b[:at], c.Value(), want)
			}
		}
		if c.Value() != Crc40(b) {
			t.Fatalf("P2.9: the check of %v depends on its pieces", b)
		}
	}
}

func TestCrcIsContinuedTwice(t *testing.T) {
	c := BeginCrc().Add("ab")
	before := c.Value()
	first := c.Add("cd")
	second := c.Add("é\x00")
	if c.Value() != before || before != bitwise([]byte("ab")) {
		t.Error("P2.1: Add changes what it continues")
	}
	if first.Value() != bitwise([]byte("abcd")) || second.Value() != bitwise([]byte("abé\x00")) {
		t.Error("P2.1: one message that is continued twice:", first.Value(), second.Value())
	}
}

// fiveBytes is the message of P2.2.
func fiveBytes(l []int) []byte {
	var b []byte
	for _, n := range l {
		z := new(big.Int).And(big.NewInt(int64(n)), big.NewInt(1<<40-1)) // And is in two's complement
		b = append(b, z.FillBytes(make([]byte, 5))...)
	}
	return b
}

func TestWords(t *testing.T) {
	for _, x := range []struct {
		l    []int
		want int
	}{
		{nil, 0},
		{[]int{}, 0},
		{[]int{1<<40 - 1}, 1<<40 - 1},
		{[]int{1<<40 - 2}, 0xfffb7dfff6},
		{[]int{-1}, 1<<40 - 1},
		{[]int{-2}, 0xfffb7dfff6},
		{[]int{math.MaxInt}, 1<<40 - 1},
		{[]int{1<<41 - 2}, 0xfffb7dfff6},
	} {
		if n := Words(x.l); n != x.want {
			t.Errorf("P2.2: Words(%v) = %x, want %x", x.l, n, x.want)
		}
	}
	if Words([]int{math.MinInt}) != Words([]int{0}) || Words([]int{1 << 40}) != Words([]int{0}) {
		t.Error("P2.2: bits above the lowest 40 matter")
	}
	if Words([]int{0}) == Words(nil) || Words([]int{1, 2}) == Words([]int{2, 1}) {
		t.Error("P2.2: the number of integers, or their order, does not matter")
	}
	r := random()
	for range 5000 {
		l := make([]int, r.IntN(12))
		for i := range l {
			l[i] = int(r.Uint64()) >> r.IntN(64)
		}
		before := slices.Clone(l)
		if n := Words(l); n != bitwise(fiveBytes(before)) || !slices.Equal(l, before) {
			t.Fatalf("P2.2: Words(%v) = %x, want %x", before, n, bitwise(fiveBytes(before)))
		}
	}
}

func TestJoinExamples(t *testing.T) {
	for _, x := range []struct{ a, b, n, want int }{
		{255, 255, 1, 65535},
		{255, 0, 1, 65280},
		{7, 9, 0, 14},
		{1, 1, -1, 0},
		{1, 2, -1, 0},
		{3, 0, -1, 0},
		{0, 3, -1, 0},
		{1, 2, -8, 0},
		{1, 2, math.MinInt, 0},
		{0, 0, 9, 0},
		{0, 5, math.MaxInt, 5},
		{1, 0, 5, 0x0004820009},
		{1 << 32, 0, 1, 0x0004820009},
		{0, -1, 9, 1<<40 - 1},
		{-1, 0, 0, 1<<40 - 1},
		{-1, -1, 0, 0},
		{1<<40 + 3, 0, 0, 3},
		{0, 1<<40 + 3, 0, 3},
		{1 << 40, 1 << 62, 7, 0},
		{math.MinInt, math.MinInt, 3, 0},
	} {
		if n := Join(x.a, x.b, x.n); n != x.want {
			t.Errorf("P2.3: Join(%d, %d, %d) = %x, want %x", x.a, x.b, x.n, n, x.want)
		}
	}
}

func TestJoinIsReduction(t *testing.T) {
	r := random()
	for n := range 60 {
		for range 50 {
			a := int(r.Uint64()) >> r.IntN(64)
			b := int(r.Uint64()) >> r.IntN(64)
			if got, want := Join(a, b, n), joined(a, b, n); got != want {
				t.Fatalf("P2.3: Join(%d, %d, %d) = %x, want %x", a, b, n, got, want)
			}
		}
	}
	for _, n := range []int{255, 256, 257, 1000, 4096} {
		a := int(r.Uint64() >> 24)
		if got, want := Join(a, 1, n), joined(a, 1, n); got != want {
			t.Errorf("P2.3: Join(%d, 1, %d) = %x, want %x", a, n, got, want)
		}
	}
}

func TestJoinOfMessages(t *testing.T) {
	r := random()
	for range 3000 {
		first := randomBytes(r, r.IntN(60))
		second := randomBytes(r, r.IntN(60))
		want := bitwise(slices.Concat(first, second))
		if got := Join(Crc40(first), Crc40(second), len(second)); got != want {
			t.Fatalf("P2.3: the joined check of %v and %v is %x, want %x", first, second, got, want)
		}
	}
	first := randomBytes(r, 100000)
	second := randomBytes(r, 70000)
	if Join(Crc40(first), Crc40(second), len(second)) != bitwise(slices.Concat(first, second)) {
		t.Error("P2.3: long messages")
	}
}

// raised returns x^(8 * n) modulo the polynomial, for any n from 0 on.
func raised(n int) *big.Int {
	p := big.NewInt(1)
	for i := 62; i >= 0; i-- {
		p = product(p, p)
		if n>>i&1 == 1 {
			p = product(p, big.NewInt(1<<8))
		}
	}
	return p
}

// A Join whose steps grow with n comes to no end here.
func TestJoinOverManyBytes(t *testing.T) {
	for _, n := range []int{1 << 20, 1<<31 - 1, 1 << 40, 1<<61 - 1, 1 << 61, 1 << 62, math.MaxInt - 1, math.MaxInt} {
		for _, a := range []int{1, 1 << 39, 1<<40 - 1, 123456789012} {
			want := int(product(big.NewInt(int64(a)), raised(n)).Int64())
			if got := Join(a, 0, n); got != want {
				t.Errorf("P2.3: Join(%d, 0, %d) = %x, want %x", a, n, got, want)
			}
		}
	}
}

func TestCrcIsLinear(t *testing.T) {
	r := random()
	for range 3000 {
		n := r.IntN(80)
		a, b, c := randomBytes(r, n), randomBytes(r, n), randomBytes(r, n)
		all := make([]byte, n)
		for i := range all {
			all[i] = a[i] ^ b[i] ^ c[i]
		}
		if Crc40(all) != Crc40(a)^Crc40(b)^Crc40(c) {
			t.Fatalf("P2.6: the checks of %v, %v, %v", a, b, c)
		}
	}
}

// flipped returns b with those bits of burst changed that follow the bit at.
func flipped(b []byte, at int, burst uint64) []byte {
	b = slices.Clone(b)
	for i := range 40 {
		if burst>>i&1 == 1 {
			b[(at+i)/8] ^= 128 >> ((at + i) % 8)
		}
	}
	return b
}

func TestBursts(t *testing.T) {
	r := random()
	for _, size := range []int{5, 6, 9, 64, 300} {
		b := randomBytes(r, size)
		check := Crc40(b)
		for at := range 8*size - 39 {
			bursts := []uint64{1, 1 << 39, 1<<40 - 1, 1<<39 | 1, 0x0004820009, 0x9000412000, 0x8002410004}
			for range 20 {
				bursts = append(bursts, r.Uint64()>>24>>r.IntN(40)|1)
			}
			for _, burst := range bursts {
				if Crc40(flipped(b, at, burst)) == check {
					t.Fatalf("P2.7: the burst %x after %d bits of %d bytes is not seen", burst, at, size)
				}
			}
		}
	}
	seen := map[int]bool{}
	for i := range 1 << 16 {
		seen[Crc40([]byte{1, byte(i >> 8), byte(i), 7})] = true
	}
	if len(seen) != 1<<16 {
		t.Error("P2.7: different messages, and only so many checks:", len(seen))
	}
}

func TestJoinInAnyOrder(t *testing.T) {
	r := random()
	for range 500 {
		a, b, c := int(r.Uint64()>>24), int(r.Uint64()>>24), int(r.Uint64()>>24)
		n, m := r.IntN(math.MaxInt)>>r.IntN(62)/2, r.IntN(math.MaxInt)>>r.IntN(62)/2
		if Join(Join(a, b, n), c, m) != Join(a, Join(b, c, m), n+m) {
			t.Fatalf("P2.8: the order in which %d, %d, %d are joined, over %d and %d bytes, matters", a, b, c, n, m)
		}
		if Join(Join(a, 0, n), 0, m) != Join(a, 0, n+m) {
			t.Fatalf("P2.8: %d over %d and %d bytes", a, n, m)
		}
	}
	for range 500 {
		x, y, z := randomBytes(r, r.IntN(40)), randomBytes(r, r.IntN(40)), randomBytes(r, r.IntN(40))
		a, b, c := Crc40(x), Crc40(y), Crc40(z)
		want := Crc40(slices.Concat(x, y, z))
		if Join(Join(a, b, len(y)), c, len(z)) != want || Join(a, Join(b, c, len(z)), len(y)+len(z)) != want {
			t.Fatalf("P2.8: the messages %v, %v, %v", x, y, z)
		}
	}
}
