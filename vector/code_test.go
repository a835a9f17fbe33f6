package vector

import (
	"bytes"
	"math"
	"slices"
	"testing"

	"antiquary/api"
	"antiquary/wire"
)

// order is P4.6, read literally.
func order(a, b []int) int {
	if len(a) < len(b) {
		return -1
	}
	if len(a) > len(b) {
		return 1
	}
	for i := range a {
		if a[i] != b[i] {
			if a[i] < b[i] {
				return -1
			}
			return 1
		}
	}
	return 0
}

func TestCompareExamples(t *testing.T) {
	for _, x := range []struct {
		a, b []int
		want int
	}{
		{[]int{1, -2, 3}, []int{4, 2, 3}, -1},
		{[]int{9}, []int{1, -2, 3}, -1},
		{nil, nil, 0},
		{nil, []int{}, 0},
		{nil, []int{0}, -1},
		{nil, []int{-5}, -1},
		{[]int{-5}, []int{3}, -1},
		{[]int{9, 9}, []int{-1, -1, -1}, -1},
		{[]int{1, 9}, []int{2, 0}, -1},
		{[]int{1, 2}, []int{1, 3}, -1},
		{[]int{4, 4}, []int{4, 4}, 0},
		{[]int{math.MinInt}, []int{math.MaxInt}, -1},
		{[]int{math.MinInt}, []int{1}, -1},
		{[]int{-2}, []int{math.MaxInt}, -1},
		{[]int{math.MinInt, math.MaxInt}, []int{math.MinInt, math.MaxInt}, 0},
		{make([]int, 40), make([]int, 41), -1},
		{make([]int, 40), append(make([]int, 39), 1), -1},
	} {
		if Compare(x.a, x.b) != x.want || Compare(x.b, x.a) != -x.want {
			t.Errorf("P4.6: Compare(%v, %v) = %d, and exchanged %d", x.a, x.b, Compare(x.a, x.b), Compare(x.b, x.a))
		}
	}
}

func TestCompareIsAnOrder(t *testing.T) {
	l := slices.Concat(grid(0, 0), grid(1, 3), grid(2, 1), grid(3, 1), grid(4, 0))
	l = append(l, []int{math.MinInt}, []int{math.MaxInt}, []int{math.MinInt, 0}, []int{0, math.MaxInt})
	for _, a := range l {
		for _, b := range l {
			ab := Compare(a, b)
			if ab != order(a, b) {
				t.Fatalf("P4.6: Compare(%v, %v) = %d", a, b, ab)
			}
			if ab != -Compare(b, a) || (ab == 0) != slices.Equal(a, b) {
				t.Fatalf("P4.11: Compare(%v, %v) = %d", a, b, ab)
			}
			for _, c := range l {
				if ab <= 0 && Compare(b, c) <= 0 && Compare(a, c) > 0 {
					t.Fatalf("P4.11: Compare is no order: %v, %v, %v", a, b, c)
				}
			}
		}
	}
	r := random()
	for range 20000 {
		a, b := pair(r)
		before, other := slices.Clone(a), slices.Clone(b)
		if Compare(a, b) != order(a, b) || Compare(b, a) != order(b, a) || Compare(a, a) != 0 {
			t.Errorf("P4.6: Compare(%v, %v) = %d", a, b, Compare(a, b))
		}
		if !slices.Equal(a, before) || !slices.Equal(b, other) {
			t.Fatalf("Compare changes %v or %v", before, other)
		}
	}
}

func TestEncodeAndDecode(t *testing.T) {
	r := random()
	l := slices.Concat(grid(1, 1000), grid(2, 2), [][]int{make([]int, 32), {1000, -1000, 7}, {63, -64, 64, -65}})
	for range 5000 {
		l = append(l, randomVector(r, 1+r.IntN(api.MaxDims)))
	}
	for _, v := range l {
		before := slices.Clone(v)
		b := Encode(v)
		if !bytes.Equal(b, wire.Ints(before)) || !slices.Equal(v, before) {
			t.Fatalf("P4.7: Encode(%v) = %v", before, b)
		}
		encoded := slices.Clone(b)
		if got, e := Decode(b); e != api.OK || !slices.Equal(got, v) || !bytes.Equal(b, encoded) {
			t.Fatalf("P4.11: Decode(%v) = %v, %d", encoded, got, e)
		}
	}
	for _, v := range odd() {
		if b := Encode(v); !bytes.Equal(b, wire.Ints(v)) {
			t.Errorf("P4.7: Encode(%v) = %v", v, b)
		}
	}
}

func TestDecodeErrors(t *testing.T) {
	with := func(b []byte, more ...byte) []byte { return append(slices.Clone(b), more...) }
	for _, x := range []struct {
		b []byte
		e api.Errno
	}{
		{nil, api.ErrTruncated},
		{[]byte{}, api.ErrTruncated},
		{[]byte{2}, api.ErrTruncated},
		{[]byte{4, 0}, api.ErrTruncated},
		{[]byte{2, 128}, api.ErrTruncated},
		{with(Encode([]int{1, 2}))[:2], api.ErrTruncated},
		{with(wire.Int(33), make([]byte, 32)...), api.ErrTruncated},
		{with(wire.Int(math.MaxInt), 0), api.ErrTruncated},
		{[]byte{1}, api.ErrEncoding},
		{with(wire.Int(math.MinInt), 0), api.ErrEncoding},
		{[]byte{128, 0}, api.ErrEncoding},
		{[]byte{2, 128, 0}, api.ErrEncoding},
		{bytes.Repeat([]byte{255}, 20), api.ErrEncoding},
		{with(Encode([]int{3, 4}), 0), api.ErrEncoding},
		{with(Encode([]int{3, 4}), 2, 0), api.ErrEncoding},
		{with(Encode([]int{3, 4}), Encode([]int{3, 4})...), api.ErrEncoding},
		{[]byte{0}, api.ErrVector},
		{Encode([]int{1001}), api.ErrVector},
		{Encode([]int{-1001}), api.ErrVector},
		{Encode([]int{0, math.MinInt}), api.ErrVector},
		{Encode(make([]int, 33)), api.ErrVector},
		{with(Encode(nil), 0), api.ErrEncoding}, // no vector either
		{with(Encode([]int{1001}), 128), api.ErrEncoding},
		{with(Encode(make([]int, 33)), 2), api.ErrEncoding},
	} {
		if v, e := Decode(x.b); len(v) != 0 || e != x.e {
			t.Errorf("P4.7: Decode(%v) = %v, %d, want the error %d", x.b, v, e, x.e)
		}
	}
	for _, v := range odd() {
		if got, e := Decode(Encode(v)); len(got) != 0 || e != api.ErrVector {
			t.Errorf("P4.7: Decode of the encoding of %v: %v, %d", v, got, e)
		}
	}
}

// decoded is P4.7, read literally.
func decoded(b []byte) ([]int, api.Errno) {
	l, used, e := wire.GetInts(b)
	if e != api.OK {
		return nil, e
	}
	if used != len(b) {
		return nil, api.ErrEncoding
	}
	if !isVector(l) {
		return nil, api.ErrVector
	}
	return l, api.OK
}

func checkDecode(t *testing.T, b []byte) {
	t.Helper()
	v, e := Decode(b)
	want, f := decoded(b)
	if e != f || !slices.Equal(v, want) {
		t.Fatalf("P4.7: Decode(%v) = %v, %d, want %v, %d", b, v, e, want, f)
	}
	if e == api.OK && !bytes.Equal(Encode(v), b) {
		t.Fatalf("P4.11: Encode(%v) = %v, want %v", v, Encode(v), b)
	}
}

func TestDecodeAnyBytes(t *testing.T) {
	checkDecode(t, nil)
	for x := range 1 << 16 {
		first, second := byte(x>>8), byte(x)
		checkDecode(t, []byte{first})
		checkDecode(t, []byte{first, second})
		checkDecode(t, []byte{2, first, second})
		checkDecode(t, []byte{4, first, second})
		checkDecode(t, []byte{first, 208, second})
	}
	r := random()
	for range 20000 {
		b := Encode(randomList(r, r.IntN(35), api.MaxCoord+r.IntN(3)/2))
		checkDecode(t, b)
		checkDecode(t, b[:r.IntN(len(b)+1)])
		checkDecode(t, append(slices.Clone(b), byte(r.IntN(256))))
		b[r.IntN(len(b))] = byte(r.IntN(256))
		checkDecode(t, b)
	}
}

func TestCodesAreNewMemory(t *testing.T) {
	list := []int{1, -2, 3}
	for i := range 2 {
		b := Encode(list)
		if !bytes.Equal(b, []byte{6, 2, 3, 6}) {
			t.Errorf("P4.7: encoding %d shares memory with an earlier one: %v", i, b)
		}
		v, _ := Decode(b)
		clear(b)
		if !slices.Equal(v, []int{1, -2, 3}) {
			t.Errorf("P4.7: a vector shares memory with the bytes it was decoded from: %v", v)
		}
		spoil(v)
		clear(b[:cap(b)])
	}
}
