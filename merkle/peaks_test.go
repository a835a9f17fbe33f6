package merkle

import (
	"math"
	"math/bits"
	"slices"
	"testing"

	"antiquary/api"
)

// topsOf returns the roots of the parts that the binary digits of the number of elements say, the greatest first.
func topsOf(l []api.Digest) []api.Digest {
	var tops []api.Digest
	for size := 1 << 20; size > 0; size /= 2 {
		if len(l)&size > 0 {
			tops = append(tops, rootOf(l[:size]))
			l = l[size:]
		}
	}
	return tops
}

func samePeaks(p api.Peaks, size int, tops []api.Digest) bool {
	return p.Size == size && slices.Equal(p.Tops, tops)
}

func TestPeaksExamples(t *testing.T) {
	l := randomDigests(random(), 4)
	ab := node(l[0], l[1])
	var p api.Peaks
	for i, want := range [][]api.Digest{{l[0]}, {ab}, {ab, l[2]}, {node(ab, node(l[2], l[3]))}} {
		var e api.Errno
		if p, e = Append(p, l[i]); e != api.OK || !samePeaks(p, i+1, want) {
			t.Fatalf("P3.5: the peaks of %d elements: %v, %d", i+1, p, e)
		}
	}
}

func TestPeaksOfAnyList(t *testing.T) {
	r := random()
	for _, l := range append(lists(), randomDigests(r, 1025)) {
		p := api.Peaks{}
		for i, d := range l {
			next, e := Append(p, d)
			if e != api.OK || !samePeaks(next, i+1, topsOf(l[:i+1])) {
				t.Fatalf("P3.5: the peaks of %d elements: %v, %d", i+1, next, e)
			}
			if !samePeaks(p, i, topsOf(l[:i])) {
				t.Fatalf("Append changes the peaks of %d elements", i)
			}
			p = next
			if top, e := Top(p); e != api.OK || top != rootOf(l[:i+1]) || top != Root(l[:i+1]) {
				t.Fatalf("P3.6: the top of the peaks of %d elements: %x, %d", i+1, top, e)
			}
			if !samePeaks(p, i+1, topsOf(l[:i+1])) {
				t.Fatalf("Top changes the peaks of %d elements", i+1)
			}
		}
	}
}

func TestPeaksOfNothing(t *testing.T) {
	for _, p := range []api.Peaks{{}, {Tops: []api.Digest{}}} {
		if top, e := Top(p); e != api.OK || top != empty() {
			t.Errorf("P3.5: the top of no peaks: %x, %d", top, e)
		}
		a := randomDigest(random())
		if next, e := Append(p, a); e != api.OK || !samePeaks(next, 1, []api.Digest{a}) {
			t.Errorf("P3.5: the first element: %v, %d", next, e)
		}
	}
}

// Peaks that are continued twice, and whose memory has room for more, stay what they are.
func TestPeaksAreNewMemory(t *testing.T) {
	r := random()
	for size := range 70 {
		room := randomDigests(r, bits.OnesCount(uint(size))+5)
		before := slices.Clone(room)
		p := api.Peaks{Size: size, Tops: room[:bits.OnesCount(uint(size))]}
		one, two := randomDigest(r), randomDigest(r)
		first, _ := Append(p, one)
		kept := slices.Clone(first.Tops)
		second, _ := Append(p, two)
		if !slices.Equal(first.Tops, kept) || slices.Equal(first.Tops, second.Tops) {
			t.Errorf("P3.5: the peaks of %d elements, continued twice, share memory", size)
		}
		if !isNew(first.Tops, room, before) || !isNew(second.Tops, room, before) {
			t.Errorf("P3.5: the peaks after %d elements share memory with those before", size)
		}
	}
}

func TestPeaksThatAreNotWellFormed(t *testing.T) {
	for _, size := range []int{0, 1, 2, 3, 7, 8, 1000, api.MaxLeaves - 1, api.MaxLeaves, api.MaxLeaves + 1, 1<<41 - 1, 1 << 62, math.MaxInt, -1, -2, math.MinInt, math.MinInt + 1} {
		right := bits.OnesCount(uint(size))
		for count := max(0, right-2); count <= right+2; count++ {
			if count == right && size >= 0 && size <= api.MaxLeaves {
				continue
			}
			p := api.Peaks{Size: size, Tops: make([]api.Digest, count)}
			if next, e := Append(p, api.Digest{1}); e != api.ErrForm || !samePeaks(next, 0, nil) {
				t.Errorf("P3.5: Append to %d tops of %d elements: %v, %d", count, size, next, e)
			}
			if top, e := Top(p); e != api.ErrForm || top != (api.Digest{}) {
				t.Errorf("P3.5: Top of %d tops of %d elements: %x, %d", count, size, top, e)
			}
		}
	}
}

func TestPeaksAtTheLimit(t *testing.T) {
	r := random()
	leaf := randomDigest(r)
	full := api.Peaks{Size: api.MaxLeaves, Tops: randomDigests(r, 1)}
	if next, e := Append(full, leaf); e != api.ErrLimit || !samePeaks(next, 0, nil) {
		t.Errorf("P3.5: Append at the limit: %v, %d", next, e)
	}
	if top, e := Top(full); e != api.OK || top != full.Tops[0] {
		t.Errorf("P3.5: Top at the limit: %x, %d", top, e)
	}
	p := api.Peaks{Size: api.MaxLeaves - 1, Tops: randomDigests(r, 40)}
	top := p.Tops[39]
	last := node(p.Tops[39], leaf)
	for i := 38; i >= 0; i-- {
		top = node(p.Tops[i], top)
		last = node(p.Tops[i], last)
	}
	if d, e := Top(p); e != api.OK || d != top {
		t.Errorf("P3.5: Top before the limit: %x, %d", d, e)
	}
	if next, e := Append(p, leaf); e != api.OK || !samePeaks(next, api.MaxLeaves, []api.Digest{last}) {
		t.Errorf("P3.5: Append before the limit: %v, %d", next, e)
	}
	p = api.Peaks{Size: api.MaxLeaves - 2, Tops: randomDigests(r, 39)}
	if next, e := Append(p, leaf); e != api.OK || !samePeaks(next, api.MaxLeaves-1, append(slices.Clone(p.Tops), leaf)) {
		t.Errorf("P3.5: Append two before the limit: %v, %d", next, e)
	}
}
