package wire

import (
	"bytes"
	"math"
	"math/big"
	"math/rand/v2"
	"runtime"
	"slices"
	"strings"
	"testing"

	"antiquary/api"
)

func random() *rand.Rand { return rand.New(rand.NewPCG(1, 7)) }

func join(parts ...[]byte) []byte { return slices.Concat(parts...) }

func times(n int, c byte) []byte { return bytes.Repeat([]byte{c}, n) }

// integers returns all integers near 0 and near the powers of 2, their negatives, the extremes, and some others.
func integers() []int {
	var l []int
	for n := -20000; n <= 20000; n++ {
		l = append(l, n)
	}
	for shift := range 64 {
		for d := -2; d <= 2; d++ {
			l = append(l, 1<<shift+d, -(1<<shift)+d)
		}
	}
	r := random()
	for range 20000 {
		l = append(l, int(r.Uint64())>>r.IntN(64))
	}
	return append(l, math.MaxInt, math.MinInt)
}

// folded returns z as P1.1 defines it.
func folded(n int) *big.Int {
	z := new(big.Int).Mul(big.NewInt(2), big.NewInt(int64(n)))
	if n < 0 {
		z.Neg(z).Sub(z, big.NewInt(1))
	}
	return z
}

// sum returns the number of which b is the encoding in base 128.
func sum(b []byte) *big.Int {
	z := new(big.Int)
	for i, c := range b {
		digit := big.NewInt(int64(c & 127))
		z.Add(z, digit.Lsh(digit, uint(7*i)))
	}
	return z
}

// readInt is P1.2, read literally.
func readInt(b []byte) (int, int, api.Errno) {
	end := slices.IndexFunc(b[:min(len(b), 10)], func(c byte) bool { return c < 128 })
	switch {
	case end < 0 && len(b) >= 10:
		return 0, 0, api.ErrEncoding
	case end < 0:
		return 0, 0, api.ErrTruncated
	case end == 9 && b[end] > 1, end > 0 && b[end] == 0:
		return 0, 0, api.ErrEncoding
	}
	z := sum(b[:end+1])
	half := new(big.Int).Rsh(z, 1)
	if z.Bit(0) == 1 {
		half.Neg(half).Sub(half, big.NewInt(1))
	}
	return int(half.Int64()), end + 1, api.OK
}

func TestIntExamples(t *testing.T) {
	for _, x := range []struct {
		n    int
		want []byte
	}{
		{0, []byte{0}},
		{1, []byte{2}},
		{-1, []byte{1}},
		{63, []byte{126}},
		{-64, []byte{127}},
		{64, []byte{128, 1}},
		{-65, []byte{129, 1}},
		{8191, []byte{254, 127}},
		{-8192, []byte{255, 127}},
		{8192, []byte{128, 128, 1}},
		{-8193, []byte{129, 128, 1}},
		{math.MaxInt, join([]byte{254}, times(8, 255), []byte{1})},
		{math.MinInt, join(times(9, 255), []byte{1})},
	} {
		if b := Int(x.n); !bytes.Equal(b, x.want) {
			t.Errorf("P1.1: Int(%d) = %v, want %v", x.n, b, x.want)
		}
		if n, used, e := GetInt(x.want); n != x.n || used != len(x.want) || e != api.OK {
			t.Errorf("P1.2: GetInt(%v) = %d, %d, %d", x.want, n, used, e)
		}
	}
}

func TestIntIsBase128(t *testing.T) {
	for _, n := range integers() {
		b := Int(n)
		if len(b) == 0 {
			t.Fatalf("P1.1: Int(%d) is empty", n)
		}
		last := b[len(b)-1]
		front := b[:len(b)-1]
		if sum(b).Cmp(folded(n)) != 0 {
			t.Errorf("P1.1: Int(%d) = %v has another value", n, b)
		}
		if last >= 128 || slices.ContainsFunc(front, func(c byte) bool { return c < 128 }) {
			t.Errorf("P1.1: Int(%d) = %v does not end where it should", n, b)
		}
		if len(b) > 1 && last == 0 {
			t.Errorf("P1.1: Int(%d) = %v is too long", n, b)
		}
	}
}

func TestGetIntErrors(t *testing.T) {
	for _, x := range []struct {
		b []byte
		e api.Errno
	}{
		{nil, api.ErrTruncated},
		{[]byte{}, api.ErrTruncated},
		{[]byte{128}, api.ErrTruncated},
		{[]byte{255, 255}, api.ErrTruncated},
		{times(9, 128), api.ErrTruncated},
		{times(9, 255), api.ErrTruncated},
		{times(10, 128), api.ErrEncoding},
		{times(10, 255), api.ErrEncoding},
		{times(11, 255), api.ErrEncoding},
		{join(times(10, 255), []byte{0}), api.ErrEncoding},
		{join(times(10, 255), []byte{1}), api.ErrEncoding},
		{[]byte{128, 0}, api.ErrEncoding},
		{[]byte{255, 0}, api.ErrEncoding},
		{[]byte{255, 0, 1}, api.ErrEncoding},
		{[]byte{128, 128, 0}, api.ErrEncoding},
		{join(times(9, 255), []byte{0}), api.ErrEncoding},
		{join(times(9, 255), []byte{2}), api.ErrEncoding},
		{join(times(9, 128), []byte{2}), api.ErrEncoding},
		{join(times(9, 128), []byte{127}), api.ErrEncoding},
		{join(times(9, 255), []byte{2, 1}), api.ErrEncoding},
	} {
		if n, used, e := GetInt(x.b); n != 0 || used != 0 || e != x.e {
			t.Errorf("P1.2: GetInt(%v) = %d, %d, %d, want the error %d", x.b, n, used, e, x.e)
		}
	}
	if n, used, e := GetInt(join(times(9, 128), []byte{1})); n != 1<<62 || used != 10 || e != api.OK {
		t.Error("P1.2: ten bytes:", n, used, e)
	}
}

// sequences calls visit for all sequences of at most so many bytes of the alphabet.
func sequences(most int, alphabet []byte, visit func([]byte)) {
	var extend func([]byte)
	extend = func(b []byte) {
		visit(b)
		if len(b) == most {
			return
		}
		for _, c := range alphabet {
			extend(append(slices.Clip(b), c))
		}
	}
	extend(nil)
}

func TestGetIntRule(t *testing.T) {
	check := func(b []byte) {
		n, used, e := GetInt(b)
		n2, used2, e2 := readInt(b)
		if n != n2 || used != used2 || e != e2 {
			t.Fatalf("P1.2: GetInt(%v) = %d, %d, %d, want %d, %d, %d", b, n, used, e, n2, used2, e2)
		}
	}
	all := make([]byte, 256)
	for i := range all {
		all[i] = byte(i)
	}
	sequences(2, all, check)
	for front := 6; front <= 10; front++ {
		for _, c := range []byte{128, 129, 200, 255} {
			sequences(3, []byte{0, 1, 2, 3, 63, 64, 127, 128, 255}, func(b []byte) { check(join(times(front, c), b)) })
		}
	}
	r := random()
	for range 100000 {
		b := make([]byte, r.IntN(13))
		for i := range b {
			b[i] = byte(r.IntN(256)) | byte(r.IntN(8)/2<<6)
		}
		check(b)
	}
}

func TestBytes(t *testing.T) {
	long := strings.Repeat("é\x00", 30000)
	for _, x := range []struct {
		s    string
		want []byte
	}{
		{"", []byte{0}},
		{"ab", []byte{4, 97, 98}},
		{"\x00\xff", []byte{4, 0, 255}},
		{strings.Repeat("x", 63), join([]byte{126}, times(63, 'x'))},
		{strings.Repeat("x", 64), join([]byte{128, 1}, times(64, 'x'))},
		{long, join(Int(90000), []byte(long))},
	} {
		if b := Bytes(x.s); !bytes.Equal(b, x.want) {
			t.Errorf("P1.3: Bytes of %d bytes: %v", len(x.s), b)
		}
		if s, used, e := GetBytes(append(x.want, 1, 2)); s != x.s || used != len(x.want) || e != api.OK {
			t.Errorf("P1.3: GetBytes of %d bytes: %d, %d, %d", len(x.s), len(s), used, e)
		}
	}
}

func TestGetBytesErrors(t *testing.T) {
	for _, x := range []struct {
		b []byte
		e api.Errno
	}{
		{nil, api.ErrTruncated},
		{[]byte{130}, api.ErrTruncated},
		{[]byte{128, 0}, api.ErrEncoding},
		{times(10, 255), api.ErrEncoding},
		{[]byte{1}, api.ErrEncoding},
		{[]byte{127, 97, 98}, api.ErrEncoding},
		{join(Int(math.MinInt), []byte("ab")), api.ErrEncoding},
		{[]byte{2}, api.ErrTruncated},
		{[]byte{6, 97, 98}, api.ErrTruncated},
		{join(Int(math.MaxInt), []byte("ab")), api.ErrTruncated},
	} {
		if s, used, e := GetBytes(x.b); s != "" || used != 0 || e != x.e {
			t.Errorf("P1.3: GetBytes(%v) = %q, %d, %d, want the error %d", x.b, s, used, e, x.e)
		}
	}
}

func TestLists(t *testing.T) {
	d := api.Digest{0, 1, 2, 255}
	f := api.Digest{15: 128}
	for i, x := range []struct{ b, want []byte }{
		{Ints(nil), []byte{0}},
		{Ints([]int{}), []byte{0}},
		{Ints([]int{1, -1}), []byte{4, 2, 1}},
		{Ints([]int{64, 0, -65}), []byte{6, 128, 1, 0, 129, 1}},
		{Ints(make([]int, 64)), join([]byte{128, 1}, make([]byte, 64))},
		{Strings(nil), []byte{0}},
		{Strings([]string{""}), []byte{2, 0}},
		{Strings([]string{"", "a"}), []byte{4, 0, 2, 97}},
		{Strings([]string{"bc", "a"}), []byte{4, 4, 98, 99, 2, 97}},
		{Digests(nil), []byte{0}},
		{Digests([]api.Digest{d}), join([]byte{2}, d[:])},
		{Digests([]api.Digest{f, d}), join([]byte{4}, f[:], d[:])},
	} {
		if !bytes.Equal(x.b, x.want) {
			t.Errorf("P1.4: list %d is %v, want %v", i, x.b, x.want)
		}
	}
}

func TestGetLists(t *testing.T) {
	d := api.Digest{0, 1, 2, 255}
	f := api.Digest{15: 128}
	if l, used, e := GetInts([]byte{4, 2, 1, 9}); !slices.Equal(l, []int{1, -1}) || used != 3 || e != api.OK {
		t.Error("P1.5: GetInts:", l, used, e)
	}
	if l, used, e := GetStrings([]byte{6, 0, 4, 98, 99, 2, 97, 9}); !slices.Equal(l, []string{"", "bc", "a"}) || used != 7 || e != api.OK {
		t.Error("P1.5: GetStrings:", l, used, e)
	}
	if l, used, e := GetDigests(join([]byte{4}, f[:], d[:], []byte{9})); !slices.Equal(l, []api.Digest{f, d}) || used != 33 || e != api.OK {
		t.Error("P1.5: GetDigests:", l, used, e)
	}
	ints, m, e := GetInts([]byte{0, 2})
	texts, n, f1 := GetStrings([]byte{0, 2})
	digests, o, f2 := GetDigests([]byte{0, 2})
	if len(ints)+len(texts)+len(digests) != 0 || m != 1 || n != 1 || o != 1 || e != api.OK || f1 != api.OK || f2 != api.OK {
		t.Error("P1.5: lists without elements:", ints, texts, digests, m, n, o, e, f1, f2)
	}
}

func TestGetListsErrors(t *testing.T) {
	const truncated, encoding = api.ErrTruncated, api.ErrEncoding
	for _, x := range []struct {
		b                    []byte
		ints, texts, digests api.Errno
	}{
		{nil, truncated, truncated, truncated},
		{[]byte{130}, truncated, truncated, truncated},
		{[]byte{128, 0}, encoding, encoding, encoding},
		{times(10, 255), encoding, encoding, encoding},
		{join(times(10, 255), times(20, 0)), encoding, encoding, encoding},
		{[]byte{1}, encoding, encoding, encoding},
		{join([]byte{3}, times(40, 0)), encoding, encoding, encoding},
		{join(Int(math.MinInt), times(40, 0)), encoding, encoding, encoding},
		{join(Int(math.MaxInt), times(40, 0)), truncated, truncated, truncated},
		{join(Int(1<<60), times(40, 0)), truncated, truncated, truncated},   // 16 times as many is 0 in 64 bits
		{join(Int(1<<60+1), times(40, 0)), truncated, truncated, truncated}, // .. and 16
		{join(Int(1<<59), times(40, 0)), truncated, truncated, truncated},   // .. and less than 0
		{[]byte{2}, truncated, truncated, truncated},
		{[]byte{6, 128, 0}, truncated, truncated, truncated}, // too few bytes, before the element
		{[]byte{4, 128, 0}, encoding, encoding, truncated},
		{[]byte{4, 0, 128}, truncated, truncated, truncated},
		{[]byte{4, 128, 128}, truncated, truncated, truncated},
		{join([]byte{4}, times(10, 128)), encoding, encoding, truncated},
		{join([]byte{4, 0}, times(10, 128)), encoding, encoding, truncated},
		{join([]byte{2}, times(15, 128)), encoding, encoding, truncated},
		{join([]byte{4}, times(31, 128)), encoding, encoding, truncated},
	} {
		ints, m, e := GetInts(x.b)
		texts, n, f := GetStrings(x.b)
		digests, o, g := GetDigests(x.b)
		if e != x.ints || f != x.texts || g != x.digests {
			t.Errorf("P1.5: %v: the errors %d, %d, %d, want %d, %d, %d", x.b, e, f, g, x.ints, x.texts, x.digests)
		}
		if len(ints)+len(texts)+len(digests)+m+n+o != 0 {
			t.Errorf("P1.5: %v: %v, %v, %v, %d, %d, %d beside errors", x.b, ints, texts, digests, m, n, o)
		}
	}
	for _, x := range []struct {
		b []byte
		e api.Errno
	}{
		{[]byte{2, 1}, encoding},
		{[]byte{4, 0, 1}, encoding},
		{[]byte{2, 2}, truncated},
		{[]byte{4, 4, 97}, truncated},
		{[]byte{4, 2, 97}, truncated},
		{[]byte{6, 1, 128, 0}, encoding},
		{[]byte{4, 6, 128, 0}, truncated},
		{join([]byte{2}, Int(math.MaxInt), []byte("ab")), truncated},
	} {
		if l, used, e := GetStrings(x.b); len(l) != 0 || used != 0 || e != x.e {
			t.Errorf("P1.5: GetStrings(%v) = %q, %d, %d, want the error %d", x.b, l, used, e, x.e)
		}
	}
}

func same[T comparable](x, y T) bool { return x == y }

// checkValue checks P1.6 for the encoding of one value.
func checkValue[T any](t *testing.T, x T, encode func(T) []byte, decode func([]byte) (T, int, api.Errno), equal func(T, T) bool) {
	t.Helper()
	b := encode(x)
	for _, after := range [][]byte{nil, {0}, {128}, {255, 255}, times(40, 1)} {
		y, used, e := decode(join(b, after))
		if used != len(b) || e != api.OK || !equal(x, y) {
			t.Fatalf("P1.6: %v before %v is decoded as %v, %d, %d", x, after, y, used, e)
		}
	}
	for i := range b {
		if y, used, e := decode(b[:i]); used != 0 || e != api.ErrTruncated {
			t.Fatalf("P1.6: %d bytes of %v are decoded as %v, %d, %d", i, b, y, used, e)
		}
	}
}

func TestDecodingAnEncoding(t *testing.T) {
	for _, n := range integers() {
		checkValue(t, n, Int, GetInt, same)
	}
	r := random()
	checkValue(t, nil, Ints, GetInts, slices.Equal)
	checkValue(t, nil, Strings, GetStrings, slices.Equal)
	checkValue(t, nil, Digests, GetDigests, slices.Equal)
	for range 300 {
		ints := make([]int, 1+r.IntN(80))
		texts := make([]string, len(ints))
		digests := make([]api.Digest, len(ints)%9+1)
		for i := range ints {
			ints[i] = int(r.Uint64()) >> r.IntN(64)
			texts[i] = strings.Repeat(string(rune(r.IntN(500))), r.IntN(1+40>>r.IntN(6)))
			digests[i%len(digests)][i%16] = byte(r.IntN(256))
		}
		checkValue(t, ints, Ints, GetInts, slices.Equal)
		checkValue(t, texts, Strings, GetStrings, slices.Equal)
		checkValue(t, digests, Digests, GetDigests, slices.Equal)
		checkValue(t, strings.Join(texts, ""), Bytes, GetBytes, same)
	}
}

// checkBytes checks P1.6 for bytes that need not be an encoding.
func checkBytes[T any](t *testing.T, b []byte, encode func(T) []byte, decode func([]byte) (T, int, api.Errno)) {
	t.Helper()
	before := slices.Clone(b)
	x, used, e := decode(b)
	if !bytes.Equal(b, before) {
		t.Fatalf("decoding changes %v to %v", before, b)
	}
	switch e {
	case api.OK:
		if used < 1 || used > len(b) || !bytes.Equal(encode(x), b[:used]) {
			t.Fatalf("P1.6: %v is decoded as %v, %d, whose encoding is %v", b, x, used, encode(x))
		}
	case api.ErrTruncated, api.ErrEncoding:
		if used != 0 {
			t.Fatalf("%v: the length %d beside the error %d", b, used, e)
		}
	default:
		t.Fatalf("%v: the error %d", b, e)
	}
}

func TestDecodingAnything(t *testing.T) {
	check := func(b []byte) {
		checkBytes(t, b, Int, GetInt)
		checkBytes(t, b, Bytes, GetBytes)
		checkBytes(t, b, Ints, GetInts)
		checkBytes(t, b, Strings, GetStrings)
		checkBytes(t, b, Digests, GetDigests)
	}
	sequences(6, []byte{0, 1, 2, 4, 6, 128, 129}, check)
	r := random()
	for range 100000 {
		b := make([]byte, r.IntN(50))
		for i := range b {
			b[i] = byte(r.IntN(256)) >> r.IntN(8)
		}
		check(b)
	}
}

// distance returns how far n is from -1/2, doubled.
func distance(n int) uint64 {
	if n < 0 {
		return uint64(-(n+1))*2 + 1
	}
	return uint64(n)*2 + 1
}

func TestLengths(t *testing.T) {
	l := integers()
	for _, n := range l {
		size := len(Int(n))
		if size < 1 || size > 10 || size != len(Int(-1-n)) || (size == 1) != (n >= -64 && n <= 63) {
			t.Errorf("P1.7: %d has %d bytes, and %d has %d", n, size, -1-n, len(Int(-1-n)))
		}
	}
	slices.SortFunc(l, func(a, b int) int {
		if distance(a) < distance(b) {
			return -1
		}
		return int(min(distance(a)-distance(b), 1))
	})
	for i, n := range l[1:] {
		if len(Int(l[i])) > len(Int(n)) {
			t.Errorf("P1.7: %d has more bytes than %d", l[i], n)
		}
	}
	if len(Int(math.MaxInt)) != 10 || len(Int(math.MinInt)) != 10 {
		t.Error("P1.7: the extremes")
	}
}

// allocated returns how many bytes a call allocates.
func allocated(call func()) uint64 {
	var before, after runtime.MemStats
	runtime.ReadMemStats(&before)
	call()
	runtime.ReadMemStats(&after)
	return after.TotalAlloc - before.TotalAlloc
}

func TestMemoryOfDecoding(t *testing.T) {
	for _, count := range []int{1 << 20, 1 << 27, 1 << 40, 1 << 60, math.MaxInt} {
		b := join(Int(count), times(1000, 0))
		for i, call := range []func(){
			func() { GetBytes(b) },
			func() { GetInts(b) },
			func() { GetStrings(b) },
			func() { GetDigests(b) },
			func() { GetStrings(join([]byte{2}, b)) },
		} {
			if n := allocated(call); n > 1<<18 {
				t.Errorf("P1.5: call %d allocates %d bytes for %d, with %d elements announced", i, n, len(b), count)
			}
		}
	}
	many := join(Int(1<<16), times(1<<16, 0))
	for i, call := range []func(){func() { GetInts(many) }, func() { GetStrings(many) }} {
		if n := allocated(call); n > 64<<16 {
			t.Errorf("P1.5: call %d allocates %d bytes for %d", i, n, len(many))
		}
	}
}

func TestResultsAreNewMemory(t *testing.T) {
	b := []byte{2, 4, 97, 98}
	s, _, _ := GetBytes(b[1:])
	texts, _, _ := GetStrings(b)
	clear(b)
	if s != "ab" || !slices.Equal(texts, []string{"ab"}) {
		t.Error("P1.3: a text shares memory with the bytes it was decoded from")
	}
	b = join([]byte{2}, times(16, 5))
	digests, _, _ := GetDigests(b)
	clear(b)
	if digests[0][0] != 5 || digests[0][15] != 5 {
		t.Error("P1.5: a digest shares memory with the bytes it was decoded from")
	}
	for i, call := range []func() []byte{
		func() []byte { return Int(0) },
		func() []byte { return Bytes("") },
		func() []byte { return Ints(nil) },
		func() []byte { return Strings([]string{"a"}) },
		func() []byte { return Digests(digests) },
	} {
		first := call()
		want := slices.Clone(first)
		for j := range first {
			first[j] = 77
		}
		if second := call(); !bytes.Equal(second, want) {
			t.Errorf("encoding %d shares memory with an earlier one: %v", i, second)
		}
	}
}
