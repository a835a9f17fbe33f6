package best

import (
	"bytes"
	"math"
	"slices"
	"testing"

	"antiquary/api"
	"antiquary/wire"
)

// numbersOf returns ID, Ver and Key of each hit.
func numbersOf(l []api.Hit) []int {
	var list []int
	for _, h := range l {
		list = append(append(append(list, h.ID), h.Ver), h.Key)
	}
	return list
}

// decoded reads P10.6 literally.
func decoded(b []byte, k int) ([]api.Hit, api.Errno) {
	list, used, e := wire.GetInts(b)
	if e != api.OK {
		return nil, e
	}
	if used != len(b) {
		return nil, api.ErrEncoding
	}
	var l []api.Hit
	for ; len(list) >= 3; list = list[3:] {
		l = append(l, api.Hit{ID: list[0], Ver: list[1], Key: list[2]})
	}
	if len(list) > 0 || !isList(l, k) {
		return nil, api.ErrForm
	}
	return l, api.OK
}

func checkDecode(t *testing.T, b []byte, k int) {
	t.Helper()
	want, wantError := decoded(b, k)
	got, e := Decode(b, k)
	if e != wantError || !slices.Equal(got, want) {
		t.Fatalf("P10.6: Decode(%v, %d) = %v, %d, want %v, %d", b, k, got, e, want, wantError)
	}
}

func TestEncode(t *testing.T) {
	for _, x := range []struct {
		l    []api.Hit
		want []byte
	}{
		{nil, []byte{0}},
		{[]api.Hit{}, []byte{0}},
		{[]api.Hit{{ID: 1, Ver: 2, Key: 3}}, []byte{6, 2, 4, 6}},
		{pairs(1, 1, 2, 5), []byte{12, 2, 2, 2, 4, 2, 10}},
		{pairs(2, 5, 2, 5), []byte{12, 4, 2, 10, 4, 2, 10}}, // no list, but encoded
		{[]api.Hit{{ID: -1, Ver: 0, Key: 64}}, []byte{6, 1, 0, 128, 1}},
	} {
		if got := Encode(x.l); !bytes.Equal(got, x.want) {
			t.Errorf("P10.6: Encode(%v) = %v, want %v", x.l, got, x.want)
		}
	}
	r := random()
	for range 1000 {
		l := randomHits(r, r.IntN(100))
		l = append(l, api.Hit{ID: math.MinInt, Ver: math.MaxInt, Key: r.Int()}, api.Hit{ID: -r.Int(), Ver: r.Int(), Key: math.MinInt})
		if got := Encode(l); !bytes.Equal(got, wire.Ints(numbersOf(l))) {
			t.Fatalf("P10.6: Encode(%v) = %v", l, got)
		}
	}
}

func TestDecodeExamples(t *testing.T) {
	whole := Encode(pairs(1, 1, 2, 5))
	for _, x := range []struct {
		b    []byte
		k    int
		want []api.Hit
		e    api.Errno
	}{
		{whole, 2, pairs(1, 1, 2, 5), api.OK},
		{whole, 64, pairs(1, 1, 2, 5), api.OK},
		{[]byte{0}, 1, nil, api.OK},
		{[]byte{0}, 64, nil, api.OK},
		{whole, 1, nil, api.ErrForm},
		{whole, 0, nil, api.ErrForm},
		{whole, -1, nil, api.ErrForm},
		{whole, 65, nil, api.ErrForm},
		{[]byte{0}, 0, nil, api.ErrForm},
		{[]byte{0}, 65, nil, api.ErrForm},
		{nil, 1, nil, api.ErrTruncated},
		{whole[:6], 2, nil, api.ErrTruncated},
		{whole[:6], 0, nil, api.ErrTruncated}, // before what k is
		{append(slices.Clone(whole), 0), 2, nil, api.ErrEncoding},
		{append(slices.Clone(whole), 0), 0, nil, api.ErrEncoding},
		{[]byte{0, 0}, 1, nil, api.ErrEncoding},
		{[]byte{2, 2, 9}, 1, nil, api.ErrEncoding}, // one number, and bytes left
		{[]byte{2, 2}, 1, nil, api.ErrForm},
		{[]byte{4, 2, 2}, 1, nil, api.ErrForm},
		{[]byte{8, 2, 2, 2, 2}, 64, nil, api.ErrForm},
		{[]byte{10, 2, 2, 2, 4, 2}, 64, nil, api.ErrForm},
		{[]byte{1}, 1, nil, api.ErrEncoding}, // -1 numbers
		{[]byte{6, 2, 2}, 1, nil, api.ErrTruncated},
		{[]byte{6, 2, 2, 128}, 1, nil, api.ErrTruncated},
		{[]byte{6, 2, 130, 0, 2}, 1, nil, api.ErrEncoding}, // a number in more bytes than it needs
		{[]byte{6, 0, 2, 2}, 1, nil, api.ErrForm},
		{[]byte{6, 2, 0, 2}, 1, nil, api.ErrForm},
		{[]byte{6, 2, 2, 1}, 1, nil, api.ErrForm},
		{[]byte{6, 2, 2, 0}, 1, pairs(1, 0), api.OK},
		{Encode(pairs(2, 5, 1, 1)), 2, nil, api.ErrForm},
		{Encode(pairs(1, 1, 1, 2)), 2, nil, api.ErrForm},
		{Encode(pairs(1, 1, 1, 1)), 2, nil, api.ErrForm},
		{Encode([]api.Hit{{ID: mostID, Ver: mostVer, Key: mostKey}}), 1, []api.Hit{{ID: mostID, Ver: mostVer, Key: mostKey}}, api.OK},
		{Encode([]api.Hit{{ID: mostID + 1, Ver: 1, Key: 1}}), 1, nil, api.ErrForm},
		{Encode([]api.Hit{{ID: 1, Ver: mostVer + 1, Key: 1}}), 1, nil, api.ErrForm},
		{Encode([]api.Hit{{ID: 1, Ver: 1, Key: mostKey + 1}}), 1, nil, api.ErrForm},
		{Encode(ladder(65)), 64, nil, api.ErrForm},
		{Encode(ladder(64)), 64, ladder(64), api.OK},
		{Encode(ladder(64)), 63, nil, api.ErrForm},
	} {
		got, e := Decode(x.b, x.k)
		if e != x.e || !slices.Equal(got, x.want) || e != api.OK && len(got) != 0 {
			t.Errorf("P10.6: Decode(%v, %d) = %v, %d, want %v, %d", x.b, x.k, got, e, x.want, x.e)
		}
	}
}

// TestDecodeShort decodes all short byte sequences out of some bytes.
func TestDecodeShort(t *testing.T) {
	some := []byte{0, 1, 2, 3, 4, 6, 8, 12, 128, 130}
	var extend func(b []byte, more int)
	extend = func(b []byte, more int) {
		for k := range 3 {
			checkDecode(t, b, k)
		}
		if more == 0 {
			return
		}
		for _, c := range some {
			extend(append(slices.Clone(b), c), more-1)
		}
	}
	extend(nil, 4)
	for _, first := range [][]byte{{6}, {12, 2, 2, 2}, {12, 4, 2, 4}, {8, 2}, {18, 2, 2, 0, 6, 2, 2}} {
		extend(first, 4)
	}
}

func TestDecodeOfEncode(t *testing.T) {
	for k := 1; k <= 3; k++ {
		for _, l := range smallLists(3, 2, 1, k) {
			if got, e := Decode(Encode(l), k); e != api.OK || !slices.Equal(got, l) {
				t.Fatalf("P10.10: Decode of Encode(%v), for %d, is %v, %d", l, k, got, e)
			}
		}
	}
	r := random()
	for range 500 {
		k := randomK(r)
		l := randomList(r, k)
		b := Encode(l)
		before := slices.Clone(b)
		got, e := Decode(b, k)
		if e != api.OK || !slices.Equal(got, l) {
			t.Fatalf("P10.10: Decode of Encode(%v), for %d, is %v, %d", l, k, got, e)
		}
		for n := range b {
			if got, e := Decode(b[:n], k); e != api.ErrTruncated || len(got) != 0 {
				t.Fatalf("P10.6: Decode of the first %d bytes of %v is %v, %d", n, b, got, e)
			}
		}
		checkDecode(t, b, len(l))
		checkDecode(t, b, len(l)-1)
		if !bytes.Equal(b, before) {
			t.Fatal("Decode changes its argument")
		}
	}
}

// TestDecodeOfNoList decodes encodings of hits that are no list, and of numbers that are not three for each hit.
func TestDecodeOfNoList(t *testing.T) {
	for n := range 3 {
		forLists(n, append(grid(2, 2, 1), api.Hit{}, api.Hit{ID: 1, Ver: 1, Key: -1}), func(l []api.Hit) {
			for k := range 4 {
				checkDecode(t, Encode(l), k)
			}
		})
	}
	r := random()
	for range 2000 {
		k := randomK(r)
		l := randomList(r, k)
		if len(l) > 0 {
			at := r.IntN(len(l))
			l[at].Key += r.IntN(3) - 1
			l[at].ID += r.IntN(3) - 1
		}
		checkDecode(t, Encode(l), k)
		list := numbersOf(l)
		checkDecode(t, wire.Ints(append(list, 1)), 64)
		checkDecode(t, wire.Ints(list[:len(list)-len(list)/2]), 64)
		b := Encode(l)
		b[r.IntN(len(b))] ^= byte(1 << r.IntN(8))
		checkDecode(t, b, k)
	}
}
