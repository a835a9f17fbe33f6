package bits

import (
	"math"
	"slices"
	"testing"

	"antiquary/api"
	"antiquary/wire"
)

// steps returns the numbers by which the borders of a set grow.
func steps(b api.Bits) []int {
	var l []int
	for place := range b {
		if place == 0 {
			l = append(l, b[0])
		} else {
			l = append(l, b[place]-b[place-1])
		}
	}
	return l
}

func TestEncode(t *testing.T) {
	for _, x := range []struct {
		b    api.Bits
		want []byte
	}{
		{nil, []byte{0}}, {api.Bits{}, []byte{0}}, {api.Bits{1, 4, 7, 8}, []byte{8, 2, 6, 6, 2}}, {api.Bits{0, 1}, []byte{4, 0, 2}}, {api.Bits{0, 4096}, []byte{4, 0, 128, 64}}, {api.Bits{4095, 4096}, []byte{4, 254, 63, 2}},
	} {
		if got := Encode(x.b); !slices.Equal(got, x.want) {
			t.Errorf("P11.5: Encode(%v) = %v", x.b, got)
		}
	}
	for _, b := range someSets() {
		if got := Encode(b); !slices.Equal(got, wire.Ints(steps(b))) {
			t.Fatalf("P11.5: Encode(%v) = %v", b, got)
		}
	}
}

// TestThereAndBack checks P11.9, and that no byte may be missing or added.
func TestThereAndBack(t *testing.T) {
	for _, b := range someSets() {
		data := Encode(b)
		if got, e := Decode(data); e != api.OK || !slices.Equal(got, b) {
			t.Fatalf("P11.9: Decode of Encode of %v is %v, %v", b, got, e)
		}
		for n := range min(len(data), 40) {
			refused(t, data[:n])
		}
		refused(t, data[:len(data)-1])
		refused(t, append(slices.Clone(data), 0))
		refused(t, append(slices.Clone(data), data...))
	}
}

func refused(t *testing.T, data []byte) {
	t.Helper()
	if b, e := Decode(data); e != api.ErrEncoding || len(b) != 0 {
		t.Fatalf("P11.5: Decode(%v) = %v, %v", data, b, e)
	}
}

// checkDecode checks that what is accepted is a set with these bytes, and otherwise that they are not those of a set.
func checkDecode(t *testing.T, data []byte, known map[string]bool) {
	t.Helper()
	b, e := Decode(data)
	if (e == api.OK) != known[string(data)] || e != api.OK && e != api.ErrEncoding {
		t.Fatalf("P11.5: Decode(%v) = %v, %v", data, b, e)
	}
	if e == api.OK && (!isValid(b) || !slices.Equal(Encode(b), data)) {
		t.Fatalf("P11.9: Decode(%v) = %v, whose Encode is %v", data, b, Encode(b))
	}
	if e != api.OK && len(b) != 0 {
		t.Fatalf("P11.5: Decode(%v) = %v, with the error %v", data, b, e)
	}
}

// TestDecodeShort decodes byte sequences of up to 4 bytes; the sets with so few are those of one run.
func TestDecodeShort(t *testing.T) {
	known := map[string]bool{string(wire.Ints(nil)): true}
	for from := range mostSlots {
		for to := from + 1; to <= min(from+70, mostSlots); to++ {
			known[string(wire.Ints([]int{from, to - from}))] = true
		}
	}
	for from := range 64 {
		for to := from + 1; to <= mostSlots; to++ {
			known[string(wire.Ints([]int{from, to - from}))] = true
		}
	}
	check := func(data ...byte) { checkDecode(t, data, known) }
	check()
	for a := range 256 {
		check(byte(a))
		for b := range 256 {
			check(byte(a), byte(b))
		}
	}
	for _, a := range []byte{0, 1, 2, 3, 4, 5, 6, 8, 127, 128, 129, 132, 255} {
		for b := range 256 {
			for c := range 256 {
				check(a, byte(b), byte(c))
			}
		}
	}
	for a := range 256 {
		for b := range 256 {
			for _, c := range []byte{0, 1, 2, 3, 4, 62, 63, 64, 65, 126, 127, 128, 129, 255} {
				check(4, byte(a), byte(b), c)
			}
		}
	}
}

// TestDecodeSteps puts other steps at every place of those of some sets.
func TestDecodeSteps(t *testing.T) {
	for _, b := range []api.Bits{{0, 4096}, {4095, 4096}, {0, 1}, {1, 4, 7, 8}, {0, 1, 4095, 4096}, {10, 20, 30, 40, 50, 60, 70, 80}, comb(100, 50)} {
		right := steps(b)
		for place := range right {
			for _, step := range append(edges(), right[place]-1, right[place]+1, 9, 10, 11) {
				changed := slices.Clone(right)
				changed[place] = step
				checkSteps(t, changed)
				if place+1 < len(changed) {
					changed[place+1] = right[place] + right[place+1] - step // the later borders stay
					checkSteps(t, changed)
				}
			}
		}
	}
	for n := range 4 {
		forBorders(n, edges(), func(l api.Bits) { checkSteps(t, l) })
	}
}

// checkSteps adds steps up as long as the border is one, so that they cannot become greater than an int may be.
func checkSteps(t *testing.T, l []int) {
	t.Helper()
	border := 0
	want := api.Bits{}
	for place, step := range l {
		if step < 0 || step > mostSlots-border || place > 0 && step == 0 {
			refused(t, wire.Ints(l))
			return
		}
		border += step
		want = append(want, border)
	}
	if len(l)%2 == 1 {
		refused(t, wire.Ints(l))
		return
	}
	if b, e := Decode(wire.Ints(l)); e != api.OK || !slices.Equal(b, want) {
		t.Fatalf("P11.5: Decode of the numbers %v is %v, %v", l, b, e)
	}
}

func TestDecodeWhatWrapsAround(t *testing.T) {
	most, least := math.MaxInt, math.MinInt
	for _, l := range [][]int{
		{1, 1 << 62, 1 << 62, 5}, {1, most, most, 4}, {1, most, least, 1}, {most, most, 4, 1}, {least, least, 3, 1}, {least, least}, {5, most, most, 1, 1, 1},
		{1 << 62, 1 << 62, 1 << 62, 1 << 62}, {1 << 62, 1 << 62, 1 << 62, 1 << 62, 3, 1}, {1, 1, least, least}, {1, 1, least, least, 1, 1}, {1, 1<<32 + 1}, {1 << 32, 1}, {1 << 32, 1 << 32},
	} {
		checkSteps(t, l)
		refused(t, wire.Ints(l))
	}
}

func TestDecodeLongLists(t *testing.T) {
	for _, n := range []int{4094, 4095, 4096, 4097, 4098, 5000, 8192} {
		ones := slices.Repeat([]int{1}, n)
		checkSteps(t, ones)
		ones[0] = 0
		checkSteps(t, ones)
		ones[n-1] = 0
		checkSteps(t, ones)
	}
	refused(t, wire.Ints(make([]int, 1<<16)))
}

// TestDecodeOtherForms decodes bytes that say the same in a longer way, or that promise more than there is.
func TestDecodeOtherForms(t *testing.T) {
	for _, data := range [][]byte{
		nil, {}, {128, 0}, {132, 0, 0, 2}, {4, 128, 0, 2}, {4, 0, 130, 0}, {4, 2, 130, 128, 0}, {4, 0}, {4, 2, 130}, {1}, {3, 2, 2}, {2, 2}, {6, 2, 2, 2}, {0, 0}, {4, 0, 2, 0},
		{255, 255, 255, 255, 15}, {254, 255, 255, 255, 255, 255, 255, 255, 255, 1}, {128, 128, 128, 128, 128, 128, 128, 128, 128, 2, 0, 2},
	} {
		refused(t, data)
	}
}

// TestDecodeChangedBytes changes each byte of some encodings, which must give another set, or none.
func TestDecodeChangedBytes(t *testing.T) {
	r := random()
	for _, b := range append(widestSets(), randomSets(100)...) {
		data := Encode(b)
		for range 200 {
			changed := slices.Clone(data)
			place := r.IntN(len(changed))
			if r.IntN(2) == 0 { // near the beginning, where lengths and long steps are
				place = r.IntN(min(len(changed), 6))
			}
			changed[place] ^= byte(1 + r.IntN(255))
			got, e := Decode(changed)
			if e == api.OK && (!isValid(got) || !slices.Equal(Encode(got), changed) || slices.Equal(got, b)) {
				t.Fatalf("P11.9: Decode(%v) = %v", changed, got)
			}
			if e != api.OK && (e != api.ErrEncoding || len(got) != 0) {
				t.Fatalf("P11.5: Decode(%v) = %v, %v", changed, got, e)
			}
		}
	}
}

func TestMemoryOfBytes(t *testing.T) {
	for _, b := range append(widestSets(), randomSets(20)...) {
		set, whole := spare(b)
		before := slices.Clone(whole)
		data := Encode(set)
		want := slices.Clone(data)
		again := Encode(set)
		clear(again[:cap(again)])
		if !slices.Equal(whole, before) || !slices.Equal(data, want) {
			t.Errorf("P11.5: Encode(%v) shares memory, or changes the set", b)
		}
		got, _ := Decode(data)
		other, _ := Decode(data)
		overwrite(other)
		if !slices.Equal(got, b) || !slices.Equal(data, want) {
			t.Errorf("P11.5: Decode(%v) shares memory, or changes the bytes", data)
		}
		clear(data[:cap(data)])
		if !slices.Equal(got, b) {
			t.Errorf("P11.5: what Decode returns for %v changes with the bytes", b)
		}
	}
}
