package merkle

import (
	"math/rand/v2"
	"slices"
	"strings"
	"testing"

	"antiquary/api"
	"antiquary/hash"
)

func random() *rand.Rand { return rand.New(rand.NewPCG(3, 8)) }

func randomDigest(r *rand.Rand) api.Digest {
	var d api.Digest
	for i := range d {
		d[i] = byte(r.IntN(256))
	}
	return d
}

func randomDigests(r *rand.Rand, n int) []api.Digest {
	l := make([]api.Digest, n)
	for i := range l {
		l[i] = randomDigest(r)
	}
	return l
}

// node and empty are P3.1, read literally.
func node(a, b api.Digest) api.Digest { return hash.Of(31, string(a[:]), string(b[:])) }

func empty() api.Digest { return hash.Of(32) }

// greatest returns the greatest power of 2 that is less than n.
func greatest(n int) int {
	k := 1
	for 2*k < n {
		k *= 2
	}
	return k
}

// above returns the list of the roots of pairs; one without a partner stays as it is.
func above(l []api.Digest) []api.Digest {
	var out []api.Digest
	for ; len(l) > 1; l = l[2:] {
		out = append(out, node(l[0], l[1]))
	}
	return append(out, l...)
}

// rootOf is the root, level by level from the leaves up: all parts but the last one of a level are full.
func rootOf(l []api.Digest) api.Digest {
	if len(l) == 0 {
		return empty()
	}
	for len(l) > 1 {
		l = above(l)
	}
	return l[0]
}

// lists returns lists of all small sizes, of some great ones, and with equal elements.
func lists() [][]api.Digest {
	r := random()
	var out [][]api.Digest
	for n := range 36 {
		out = append(out, randomDigests(r, n))
	}
	for _, n := range []int{63, 64, 65, 100, 127, 128, 129} {
		out = append(out, randomDigests(r, n))
	}
	one := randomDigest(r)
	for n := range 10 {
		out = append(out, make([]api.Digest, n), slices.Repeat([]api.Digest{one}, n))
	}
	return out
}

// spoilt returns digests that are not d.
func spoilt(d api.Digest) []api.Digest {
	first, last, middle := d, d, d
	first[0] ^= 128
	last[15] ^= 1
	middle[8] ^= 255
	others := []api.Digest{first, last, middle, {}, empty(), node(d, d), node(d, empty())}
	return slices.DeleteFunc(others, func(x api.Digest) bool { return x == d })
}

// spoiltPaths returns paths that are not the one given: a digest less, one more, another one, or two exchanged.
func spoiltPaths(path []api.Digest, more []api.Digest) [][]api.Digest {
	var out [][]api.Digest
	for at := range len(path) + 1 {
		for _, d := range append(slices.Clone(more), api.Digest{}) {
			out = append(out, slices.Insert(slices.Clone(path), at, d))
		}
	}
	for at := range path {
		out = append(out, slices.Delete(slices.Clone(path), at, at+1))
		for _, d := range spoilt(path[at]) {
			changed := slices.Clone(path)
			changed[at] = d
			out = append(out, changed)
		}
		if at > 0 && path[at] != path[at-1] {
			changed := slices.Clone(path)
			changed[at], changed[at-1] = changed[at-1], changed[at]
			out = append(out, changed)
		}
	}
	return out
}

// isNew reports whether a result may be overwritten, with all that its memory has room for, and the list stays what it was.
func isNew(result, list, before []api.Digest) bool {
	for i := range result[:cap(result)] {
		result[:cap(result)][i] = api.Digest{1, 2, 3}
	}
	return slices.Equal(list, before)
}

func TestLeafAndNode(t *testing.T) {
	for _, data := range []string{"", "a", "\x00", "\xff\x80", strings.Repeat("é", 500)} {
		if Leaf(data) != hash.Of(30, data) {
			t.Errorf("P3.1: Leaf(%q) = %x", data, Leaf(data))
		}
	}
	r := random()
	for range 100 {
		a, b := randomDigest(r), randomDigest(r)
		if Node(a, b) != node(a, b) || Node(a, a) != node(a, a) || Node(a, b) == Node(b, a) {
			t.Errorf("P3.1: Node(%x, %x) = %x", a, b, Node(a, b))
		}
		if Node(a, b) == Leaf(string(a[:])+string(b[:])) {
			t.Error("P3.1: a node is a leaf")
		}
	}
}

func TestRootExamples(t *testing.T) {
	l := randomDigests(random(), 7)
	ab, cd, ef := node(l[0], l[1]), node(l[2], l[3]), node(l[4], l[5])
	abcd := node(ab, cd)
	for n, want := range []api.Digest{
		hash.Of(32),
		l[0],
		ab,
		node(ab, l[2]),
		abcd,
		node(abcd, l[4]),
		node(abcd, ef),
		node(abcd, node(ef, l[6])),
	} {
		if Root(l[:n]) != want {
			t.Errorf("P3.1: the root of %d leaves is %x", n, Root(l[:n]))
		}
	}
	if Root(nil) != Root([]api.Digest{}) {
		t.Error("P3.1: the root of an empty list")
	}
}

func TestRootOfAnyList(t *testing.T) {
	r := random()
	for _, l := range append(lists(), randomDigests(r, 1000), randomDigests(r, 4095), randomDigests(r, 4096), randomDigests(r, 4097), randomDigests(r, 1<<16+1)) {
		before := slices.Clone(l)
		if Root(l) != rootOf(before) {
			t.Errorf("P3.1: the root of %d leaves is %x", len(l), Root(l))
		}
		if !slices.Equal(l, before) {
			t.Errorf("Root changes a list of %d leaves", len(l))
		}
	}
}

func TestRootDependsOnAll(t *testing.T) {
	for _, l := range lists() {
		root := Root(l)
		for i := range l {
			for _, d := range spoilt(l[i]) {
				changed := slices.Clone(l)
				changed[i] = d
				if Root(changed) == root {
					t.Fatalf("P3.1: the root of %d leaves does not depend on the leaf %d", len(l), i)
				}
			}
		}
		for _, d := range []api.Digest{{}, root, Leaf("")} {
			if len(l) > 0 && Root(append(slices.Clone(l), d)) == root {
				t.Errorf("P3.1: the root of %d leaves is that of one more", len(l))
			}
		}
	}
}
