package merkle

import (
	"math"
	"slices"
	"testing"

	"antiquary/api"
)

// inclusionOf is the proof, level by level from the leaves up: what the element, or the root that has it, is paired with.
func inclusionOf(l []api.Digest, i int) []api.Digest {
	var path []api.Digest
	for ; len(l) > 1; l = above(l) {
		if other := i ^ 1; other < len(l) {
			path = append(path, l[other])
		}
		i /= 2
	}
	return path
}

// included returns the root to which a path leads, and whether it has the right length. It takes the path from its end, as the chapter words the proof from the whole list down.
func included(leaf api.Digest, i, n int, path []api.Digest) (api.Digest, bool) {
	if n == 1 {
		return leaf, len(path) == 0
	}
	if len(path) == 0 {
		return api.Digest{}, false
	}
	end := len(path) - 1
	if k := greatest(n); i < k {
		d, ok := included(leaf, i, k, path[:end])
		return node(d, path[end]), ok
	} else {
		d, ok := included(leaf, i-k, n-k, path[:end])
		return node(path[end], d), ok
	}
}

// inclusionLength returns how many digests the proof for a position has.
func inclusionLength(i, n int) int {
	count := 0
	for n > 1 {
		if k := greatest(n); i < k {
			n = k
		} else {
			i, n = i-k, n-k
		}
		count++
	}
	return count
}

func TestInclusionExamples(t *testing.T) {
	l := randomDigests(random(), 7)
	a, b, c := l[0], l[1], l[2]
	ab, cd, ef := node(a, b), node(c, l[3]), node(l[4], l[5])
	for _, x := range []struct {
		n, i int
		want []api.Digest
	}{
		{1, 0, nil},
		{2, 0, []api.Digest{b}},
		{2, 1, []api.Digest{a}},
		{3, 0, []api.Digest{b, c}},
		{3, 1, []api.Digest{a, c}},
		{3, 2, []api.Digest{ab}},
		{5, 4, []api.Digest{node(ab, cd)}},
		{7, 2, []api.Digest{l[3], ab, node(ef, l[6])}},
		{7, 5, []api.Digest{l[4], l[6], node(ab, cd)}},
		{7, 6, []api.Digest{ef, node(ab, cd)}},
	} {
		path, e := Inclusion(l[:x.n], x.i)
		if e != api.OK || !slices.Equal(path, x.want) {
			t.Errorf("P3.2: Inclusion of the position %d of %d: %x, %d", x.i, x.n, path, e)
		}
		if !CheckInclusion(l[x.i], x.i, x.n, x.want, rootOf(l[:x.n])) {
			t.Errorf("P3.2: the proof of the position %d of %d is refused", x.i, x.n)
		}
	}
}

func TestInclusionOfAnyPosition(t *testing.T) {
	for _, l := range append(lists(), randomDigests(random(), 300)) {
		before := slices.Clone(l)
		root := rootOf(l)
		for i := range l {
			path, e := Inclusion(l, i)
			if e != api.OK || !slices.Equal(path, inclusionOf(before, i)) {
				t.Fatalf("P3.2: Inclusion of the position %d of %d: %x, %d", i, len(l), path, e)
			}
			if !CheckInclusion(l[i], i, len(l), path, root) {
				t.Fatalf("P3.6: the proof of the position %d of %d is refused", i, len(l))
			}
			if !isNew(path, l, before) {
				t.Fatalf("P3.2: the proof of the position %d of %d shares memory with the list", i, len(l))
			}
		}
	}
}

func TestInclusionOfNoPosition(t *testing.T) {
	for _, l := range lists() {
		for _, i := range []int{-1, len(l), len(l) + 1, math.MinInt, math.MaxInt} {
			if path, e := Inclusion(l[:len(l):len(l)], i); e != api.ErrArg || len(path) != 0 {
				t.Errorf("P3.2: Inclusion of the position %d of %d: %x, %d", i, len(l), path, e)
			}
			if CheckInclusion(empty(), i, len(l), nil, empty()) || CheckInclusion(rootOf(l), i, len(l), nil, rootOf(l)) {
				t.Errorf("P3.2: CheckInclusion of the position %d of %d", i, len(l))
			}
		}
	}
	if path, e := Inclusion(make([]api.Digest, 3, 8)[:3], 3); e != api.ErrArg || len(path) != 0 {
		t.Error("P3.2: a position after the list, in its memory:", path, e)
	}
}

// What is refused here is another leaf, position, number, path or root; each of them is refused, as no two pairs are known that have the same Node.
func TestInclusionOfAnother(t *testing.T) {
	for n := 1; n <= 20; n++ {
		l := randomDigests(random(), n)
		root := rootOf(l)
		for i := range l {
			path := inclusionOf(l, i)
			for _, d := range append(spoilt(l[i]), l[(i+1)%n], root) {
				if CheckInclusion(d, i, n, path, root) != (d == l[i]) {
					t.Fatalf("P3.7: another leaf at the position %d of %d", i, n)
				}
			}
			for _, d := range spoilt(root) {
				if CheckInclusion(l[i], i, n, path, d) {
					t.Fatalf("P3.2: another root, the position %d of %d", i, n)
				}
			}
			for _, other := range spoiltPaths(path, []api.Digest{l[i], root}) {
				if CheckInclusion(l[i], i, n, other, root) {
					t.Fatalf("P3.2: another path, the position %d of %d: %x", i, n, other)
				}
			}
			for j := -2; j < 40; j++ {
				if j != i && CheckInclusion(l[i], j, n, path, root) {
					t.Fatalf("P3.2: the position %d instead of %d of %d", j, i, n)
				}
			}
		}
	}
}

// checkAnyInclusion compares the check with the chapter for one number, position and path.
func checkAnyInclusion(t *testing.T, leaf api.Digest, i, n int, path []api.Digest) {
	t.Helper()
	root, ok := included(leaf, i, n, path)
	before := slices.Clone(path)
	if CheckInclusion(leaf, i, n, path, root) != ok {
		t.Fatalf("P3.2: the check of the position %d of %d with %d digests is not %v", i, n, len(path), ok)
	}
	if CheckInclusion(leaf, i, n, path, spoilt(root)[0]) {
		t.Fatalf("P3.2: another root, the position %d of %d", i, n)
	}
	if !slices.Equal(path, before) {
		t.Fatal("CheckInclusion changes the path")
	}
}

// The path alone counts, not that there is a list from which it comes.
func TestCheckInclusionOfAnyPath(t *testing.T) {
	r := random()
	for n := 1; n < 70; n++ {
		for i := range n {
			right := inclusionLength(i, n)
			for size := max(0, right-1); size <= right+1; size++ {
				checkAnyInclusion(t, randomDigest(r), i, n, randomDigests(r, size))
			}
		}
	}
	for _, n := range []int{1 << 20, 1<<31 - 1, 1<<31 + 1, 1<<39 + 1, 1<<40 - 1, api.MaxLeaves} {
		for _, i := range []int{0, 1, n / 2, n - 2, n - 1, r.IntN(n), r.IntN(n)} {
			right := inclusionLength(i, n)
			checkAnyInclusion(t, randomDigest(r), i, n, randomDigests(r, right))
			checkAnyInclusion(t, randomDigest(r), i, n, randomDigests(r, right+1))
			checkAnyInclusion(t, randomDigest(r), i, n, randomDigests(r, right-1))
		}
	}
}

// What a path does not have must not count as zero.
func TestCheckInclusionOfAShortPath(t *testing.T) {
	zero := api.Digest{}
	leaf := randomDigest(random())
	for _, x := range []struct {
		i, n int
		path []api.Digest
		root api.Digest
	}{
		{0, 2, nil, node(leaf, zero)},
		{1, 2, nil, node(zero, leaf)},
		{0, 3, []api.Digest{leaf}, node(node(leaf, leaf), zero)},
		{0, 3, nil, node(node(leaf, zero), zero)},
	} {
		if CheckInclusion(leaf, x.i, x.n, x.path, x.root) {
			t.Errorf("P3.2: a path that is too short, the position %d of %d", x.i, x.n)
		}
		longer := append(slices.Clone(x.path), make([]api.Digest, inclusionLength(x.i, x.n)-len(x.path))...)
		if !CheckInclusion(leaf, x.i, x.n, longer, x.root) {
			t.Errorf("P3.2: a path with zero digests, the position %d of %d", x.i, x.n)
		}
	}
}

func TestCheckInclusionLimits(t *testing.T) {
	l := randomDigests(random(), 2)
	a, b := l[0], l[1]
	for _, x := range []struct {
		i, n int
		path []api.Digest
		root api.Digest
		want bool
	}{
		{0, 1, nil, a, true},
		{0, 1, nil, b, false},
		{0, 0, nil, a, false},
		{-1, 0, nil, a, false},
		{0, -1, nil, a, false},
		{-2, -1, nil, a, false},
		{-1, 1, nil, a, false},
		{1, 1, nil, a, false},
		{0, math.MinInt, nil, a, false},
		{math.MinInt, 1, nil, a, false},
		{math.MaxInt, math.MaxInt, nil, a, false},
		{math.MaxInt - 1, math.MaxInt, nil, a, false},
		{2, 2, []api.Digest{b}, node(b, a), false},
		{-1, 2, []api.Digest{b}, node(a, b), false},
		{1 << 39, 1<<39 + 1, []api.Digest{b}, node(b, a), true},
		{api.MaxLeaves, api.MaxLeaves + 1, []api.Digest{b}, node(b, a), false},
		{1 << 61, 1<<61 + 1, []api.Digest{b}, node(b, a), false},
	} {
		if CheckInclusion(a, x.i, x.n, x.path, x.root) != x.want {
			t.Errorf("P3.2: the check of the position %d of %d is not %v", x.i, x.n, x.want)
		}
	}
}

// All leaves and all paths of the digests of a small tree are tried.
func TestInclusionIsBinding(t *testing.T) {
	for n := 1; n <= 5; n++ {
		l := randomDigests(random(), n)
		root := rootOf(l)
		pool := slices.Clone(l)
		for level := l; len(level) > 1; {
			level = above(level)
			pool = append(pool, level...)
		}
		slices.SortFunc(pool, func(a, b api.Digest) int { return slices.Compare(a[:], b[:]) })
		pool = slices.Compact(pool)
		paths := [][]api.Digest{nil}
		for at := 0; at < len(paths); at++ {
			if len(paths[at]) < 3 {
				for _, d := range pool {
					paths = append(paths, append(slices.Clone(paths[at]), d))
				}
			}
		}
		for i := range n {
			for _, leaf := range pool {
				for _, path := range paths {
					want := leaf == l[i] && slices.Equal(path, inclusionOf(l, i))
					if CheckInclusion(leaf, i, n, path, root) != want {
						t.Fatalf("P3.7: the check of the position %d of %d with %d digests is not %v", i, n, len(path), want)
					}
				}
			}
		}
	}
}
