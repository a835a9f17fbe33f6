package merkle

import (
	"math"
	"slices"
	"testing"

	"antiquary/api"
)

// consistencyOf is the proof of a list with a mark, read literally, for m from 1 on.
func consistencyOf(l []api.Digest, m int, mark bool) []api.Digest {
	n := len(l)
	switch {
	case m == n && mark:
		return nil
	case m == n:
		return []api.Digest{rootOf(l)}
	}
	k := greatest(n)
	if m <= k {
		return append(consistencyOf(l[:k], m, mark), rootOf(l[k:]))
	}
	return append(consistencyOf(l[k:], m-k, false), rootOf(l[:k]))
}

// consistencyLength returns how many digests the proof of n elements for m of them has, with a mark, for m from 1 on.
func consistencyLength(m, n int, mark bool) int {
	count := 0
	for m < n {
		if k := greatest(n); m <= k {
			n = k
		} else {
			m, n, mark = m-k, n-k, false
		}
		count++
	}
	if !mark {
		count++
	}
	return count
}

// consistent returns the two roots to which a path leads that has the right length, for m from 1 on. It takes the path from its end.
func consistent(m, n int, mark bool, old api.Digest, path []api.Digest) (api.Digest, api.Digest) {
	end := len(path) - 1
	switch {
	case m == n && mark:
		return old, old
	case m == n:
		return path[0], path[0]
	}
	k := greatest(n)
	if m <= k {
		before, after := consistent(m, k, mark, old, path[:end])
		return before, node(after, path[end])
	}
	before, after := consistent(m-k, n-k, false, old, path[:end])
	return node(path[end], before), node(path[end], after)
}

func isPower(m int) bool { return m > 0 && m&(m-1) == 0 }

func TestConsistencyExamples(t *testing.T) {
	l := randomDigests(random(), 7)
	a, b, c, d := l[0], l[1], l[2], l[3]
	ab, cd, ef := node(a, b), node(c, d), node(l[4], l[5])
	abcd, efg := node(ab, cd), node(ef, l[6])
	for _, x := range []struct {
		n, m int
		want []api.Digest
	}{
		{0, 0, nil},
		{1, 0, nil},
		{1, 1, nil},
		{2, 1, []api.Digest{b}},
		{3, 0, nil},
		{3, 1, []api.Digest{b, c}},
		{3, 2, []api.Digest{c}},
		{3, 3, nil},
		{4, 3, []api.Digest{c, d, ab}},
		{7, 1, []api.Digest{b, cd, efg}},
		{7, 2, []api.Digest{cd, efg}},
		{7, 3, []api.Digest{c, d, ab, efg}},
		{7, 4, []api.Digest{efg}},
		{7, 5, []api.Digest{l[4], l[5], l[6], abcd}},
		{7, 6, []api.Digest{ef, l[6], abcd}},
		{7, 7, nil},
	} {
		path, e := Consistency(l[:x.n], x.m)
		if e != api.OK || !slices.Equal(path, x.want) {
			t.Errorf("P3.3: Consistency of %d of %d: %x, %d", x.m, x.n, path, e)
		}
		if !CheckConsistency(x.m, x.n, rootOf(l[:x.m]), rootOf(l[:x.n]), x.want) {
			t.Errorf("P3.3: the proof of %d of %d is refused", x.m, x.n)
		}
	}
}

func TestConsistencyOfAnyBeginning(t *testing.T) {
	for _, l := range append(lists(), randomDigests(random(), 300)) {
		before := slices.Clone(l)
		root := rootOf(l)
		for m := range len(l) + 1 {
			var want []api.Digest
			if m > 0 {
				want = consistencyOf(before, m, true)
			}
			path, e := Consistency(l, m)
			if e != api.OK || !slices.Equal(path, want) {
				t.Fatalf("P3.3: Consistency of %d of %d: %x, %d", m, len(l), path, e)
			}
			if !CheckConsistency(m, len(l), rootOf(l[:m]), root, path) {
				t.Fatalf("P3.6: the proof of %d of %d is refused", m, len(l))
			}
			if !isNew(path, l, before) {
				t.Fatalf("P3.3: the proof of %d of %d shares memory with the list", m, len(l))
			}
		}
	}
}

func TestConsistencyOfNoBeginning(t *testing.T) {
	for _, l := range lists() {
		root := rootOf(l)
		for _, m := range []int{-1, len(l) + 1, math.MinInt, math.MaxInt} {
			if path, e := Consistency(l, m); e != api.ErrArg || len(path) != 0 {
				t.Errorf("P3.3: Consistency of %d of %d: %x, %d", m, len(l), path, e)
			}
			if CheckConsistency(m, len(l), root, root, nil) || CheckConsistency(m, len(l), empty(), root, nil) {
				t.Errorf("P3.3: CheckConsistency of %d of %d", m, len(l))
			}
		}
	}
}

// Another root of all is refused if m is not 0; another one of the first elements always, as no two pairs are known that have the same Node.
func TestConsistencyOfAnother(t *testing.T) {
	for n := range 21 {
		l := randomDigests(random(), n)
		root := rootOf(l)
		for m := range n + 1 {
			old := rootOf(l[:m])
			path, _ := Consistency(l, m)
			for _, d := range append(spoilt(root), randomDigest(random())) {
				if CheckConsistency(m, n, old, d, path) != (m == 0 || d == root) {
					t.Fatalf("P3.8: another root of all, %d of %d", m, n)
				}
			}
			for _, d := range append(spoilt(old), rootOf(l), rootOf(l[:(m+1)%(n+1)])) {
				if d != old && CheckConsistency(m, n, d, root, path) {
					t.Fatalf("P3.8: another root of the first elements, %d of %d", m, n)
				}
				if d != old && CheckConsistency(m, n, d, d, path) != (m > 0 && m == n) {
					t.Fatalf("P3.3: one other root of the first elements and of all, %d of %d", m, n)
				}
			}
			for _, other := range spoiltPaths(path, []api.Digest{old, root}) {
				if CheckConsistency(m, n, old, root, other) {
					t.Fatalf("P3.3: another path, %d of %d: %x", m, n, other)
				}
			}
			for i := 1; i <= n; i++ {
				if i != m && CheckConsistency(i, n, old, root, path) {
					t.Fatalf("P3.3: the proof of %d of %d is accepted for %d", m, n, i)
				}
			}
		}
	}
}

// checkAnyConsistency compares the check with the chapter for both numbers and one path that has the right length, or a digest more or less.
func checkAnyConsistency(t *testing.T, m, n int, old api.Digest, path []api.Digest) {
	t.Helper()
	before := slices.Clone(path)
	first, all := old, old
	right := len(path) == consistencyLength(m, n, true)
	if right {
		first, all = consistent(m, n, true, old, path)
	}
	if CheckConsistency(m, n, first, all, path) != right {
		t.Fatalf("P3.3: the check of %d of %d with %d digests is not %v", m, n, len(path), right)
	}
	if CheckConsistency(m, n, spoilt(first)[0], all, path) || CheckConsistency(m, n, first, spoilt(all)[0], path) {
		t.Fatalf("P3.3: another root, %d of %d", m, n)
	}
	if first != all && CheckConsistency(m, n, all, first, path) {
		t.Fatalf("P3.3: roots exchanged, %d of %d", m, n)
	}
	if !slices.Equal(path, before) {
		t.Fatal("CheckConsistency changes the path")
	}
}

func TestCheckConsistencyOfAnyPath(t *testing.T) {
	r := random()
	for n := 1; n < 50; n++ {
		for m := 1; m <= n; m++ {
			right := consistencyLength(m, n, true)
			for size := max(0, right-1); size <= right+1; size++ {
				checkAnyConsistency(t, m, n, randomDigest(r), randomDigests(r, size))
			}
		}
	}
	for _, n := range []int{1 << 20, 1<<31 - 1, 1<<31 + 1, 1<<39 + 1, 1<<40 - 1, api.MaxLeaves} {
		for _, m := range []int{1, 2, 3, n / 2, n/2 + 1, n - 1, n, 1 << 19, 1 + r.IntN(n), 1 + r.IntN(n)} {
			right := consistencyLength(m, n, true)
			for size := max(0, right-1); size <= right+1; size++ {
				checkAnyConsistency(t, m, n, randomDigest(r), randomDigests(r, size))
			}
		}
	}
}

// What a path does not have must not count as zero.
func TestCheckConsistencyOfAShortPath(t *testing.T) {
	zero := api.Digest{}
	a := randomDigest(random())
	for _, x := range []struct {
		m, n      int
		old, root api.Digest
		path      []api.Digest
	}{
		{1, 2, a, node(a, zero), nil},
		{2, 3, a, node(a, zero), nil},
		{3, 4, node(zero, zero), node(zero, node(zero, zero)), nil},
		{3, 4, node(zero, a), node(zero, node(a, zero)), []api.Digest{a}},
		{3, 4, node(zero, a), node(zero, node(a, a)), []api.Digest{a, a}},
	} {
		if CheckConsistency(x.m, x.n, x.old, x.root, x.path) {
			t.Errorf("P3.3: a path that is too short, %d of %d", x.m, x.n)
		}
		more := consistencyLength(x.m, x.n, true) - len(x.path)
		if !CheckConsistency(x.m, x.n, x.old, x.root, append(slices.Clone(x.path), make([]api.Digest, more)...)) {
			t.Errorf("P3.3: a path with zero digests, %d of %d", x.m, x.n)
		}
	}
}

func TestCheckConsistencyLimits(t *testing.T) {
	l := randomDigests(random(), 2)
	a, b := l[0], l[1]
	for _, x := range []struct {
		m, n      int
		old, root api.Digest
		path      []api.Digest
		want      bool
	}{
		{0, 0, empty(), empty(), nil, true},
		{0, 0, empty(), a, nil, true},
		{0, 0, a, a, nil, false},
		{0, 0, api.Digest{}, api.Digest{}, nil, false},
		{0, 0, empty(), empty(), []api.Digest{a}, false},
		{0, 5, empty(), api.Digest{}, nil, true},
		{0, 5, empty(), empty(), nil, true},
		{0, 5, a, a, nil, false},
		{0, 5, empty(), a, []api.Digest{a}, false},
		{0, api.MaxLeaves, empty(), a, nil, true},
		{0, api.MaxLeaves + 1, empty(), a, nil, false},
		{0, math.MaxInt, empty(), a, nil, false},
		{0, -1, empty(), a, nil, false},
		{-1, 0, empty(), empty(), nil, false},
		{-1, -1, a, a, nil, false},
		{-3, -2, a, a, nil, false},
		{math.MinInt, 2, a, a, nil, false},
		{math.MinInt, math.MinInt, a, a, nil, false},
		{1, 1, a, a, nil, true},
		{1, 1, a, b, nil, false},
		{5, 5, a, a, nil, true},
		{5, 5, a, b, nil, false},
		{5, 5, a, a, []api.Digest{a}, false},
		{2, 1, a, a, nil, false},
		{3, 2, a, node(a, b), []api.Digest{b}, false},
		{api.MaxLeaves, api.MaxLeaves, a, a, nil, true},
		{api.MaxLeaves + 1, api.MaxLeaves + 1, a, a, nil, false},
		{api.MaxLeaves + 1, api.MaxLeaves, a, a, nil, false},
		{math.MaxInt, math.MaxInt, a, a, nil, false},
		{1 << 39, 1<<39 + 1, a, node(a, b), []api.Digest{b}, true},
		{api.MaxLeaves, api.MaxLeaves + 1, a, node(a, b), []api.Digest{b}, false},
	} {
		if CheckConsistency(x.m, x.n, x.old, x.root, x.path) != x.want {
			t.Errorf("P3.3: the check of %d of %d with %d digests is not %v", x.m, x.n, len(x.path), x.want)
		}
	}
}

// If m is a power of 2 that is less than n, the first elements have a root of which the path says nothing: who has another one has another root of all.
func TestConsistencyTakesTheOldRoot(t *testing.T) {
	r := random()
	for n := 2; n < 40; n++ {
		for m := 1; m < n; m++ {
			path := randomDigests(r, consistencyLength(m, n, true))
			one, two := randomDigest(r), randomDigest(r)
			first, all := consistent(m, n, true, one, path)
			other, whole := consistent(m, n, true, two, path)
			if isPower(m) != (first != other) || isPower(m) != (all != whole) {
				t.Fatalf("P3.8: %d of %d", m, n)
			}
			if !CheckConsistency(m, n, other, whole, path) || CheckConsistency(m, n, other, all, path) != !isPower(m) {
				t.Fatalf("P3.8: the check of %d of %d", m, n)
			}
		}
	}
}
