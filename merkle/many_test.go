package merkle

import (
	"math"
	"slices"
	"testing"

	"antiquary/api"
)

// manyOf is the proof of a list, read literally: the positions are marked.
func manyOf(l []api.Digest, marked []bool) []api.Digest {
	n := len(l)
	switch {
	case n == 0:
		return nil
	case !slices.Contains(marked, true):
		return []api.Digest{rootOf(l)}
	case n == 1:
		return nil
	}
	k := greatest(n)
	return append(manyOf(l[:k], marked[:k]), manyOf(l[k:], marked[k:])...)
}

// among returns those of places that are in the part of n elements from start on.
func among(places []int, start, n int) []int {
	var out []int
	for _, place := range places {
		if start <= place && place < start+n {
			out = append(out, place)
		}
	}
	return out
}

// manyLength returns how many digests the proof for a part has.
func manyLength(start, n int, places []int) int {
	places = among(places, start, n)
	switch {
	case n == 0:
		return 0
	case len(places) == 0:
		return 1
	case n == 1:
		return 0
	}
	k := greatest(n)
	return manyLength(start, k, places) + manyLength(start+k, n-k, places)
}

// led returns the root of a part to which a path of the right length leads.
func led(start, n int, places []int, found map[int]api.Digest, path []api.Digest) api.Digest {
	places = among(places, start, n)
	switch {
	case n == 0:
		return empty()
	case len(places) == 0:
		return path[0]
	case n == 1:
		return found[start]
	}
	k := greatest(n)
	cut := manyLength(start, k, places)
	return node(led(start, k, places, found, path[:cut]), led(start+k, n-k, places, found, path[cut:]))
}

// placesOf returns the places of the binary digits 1 of a number.
func placesOf(set int) []int {
	var places []int
	for i := 0; set>>i > 0; i++ {
		if set>>i&1 == 1 {
			places = append(places, i)
		}
	}
	return places
}

func pick(l []api.Digest, places []int) []api.Digest {
	var found []api.Digest
	for _, place := range places {
		found = append(found, l[place])
	}
	return found
}

func marksOf(n int, places []int) []bool {
	marked := make([]bool, n)
	for _, place := range places {
		marked[place] = true
	}
	return marked
}

func TestManyExamples(t *testing.T) {
	l := randomDigests(random(), 7)
	a, b, c, d := l[0], l[1], l[2], l[3]
	ab, cd := node(a, b), node(c, d)
	efg := node(node(l[4], l[5]), l[6])
	for _, x := range []struct {
		n      int
		places []int
		want   []api.Digest
	}{
		{0, nil, nil},
		{1, nil, []api.Digest{a}},
		{1, []int{0}, nil},
		{2, []int{0}, []api.Digest{b}},
		{3, nil, []api.Digest{node(ab, c)}},
		{3, []int{0, 2}, []api.Digest{b}},
		{3, []int{0, 1, 2}, nil},
		{3, []int{2}, []api.Digest{ab}},
		{3, []int{1}, []api.Digest{a, c}},
		{7, []int{2}, []api.Digest{ab, d, efg}},
		{7, []int{1, 6}, []api.Digest{a, cd, node(l[4], l[5])}},
		{7, []int{0, 3, 5}, []api.Digest{b, c, l[4], l[6]}},
		{7, []int{4, 5, 6}, []api.Digest{node(ab, cd)}},
	} {
		path, e := Many(l[:x.n], x.places)
		if e != api.OK || !slices.Equal(path, x.want) {
			t.Errorf("P3.4: Many of the positions %v of %d: %x, %d", x.places, x.n, path, e)
		}
		if !CheckMany(x.n, x.places, pick(l, x.places), x.want, rootOf(l[:x.n])) {
			t.Errorf("P3.4: the proof of the positions %v of %d is refused", x.places, x.n)
		}
	}
	if path, e := Many([]api.Digest{}, []int{}); e != api.OK || len(path) != 0 {
		t.Error("P3.4: Many of nothing:", path, e)
	}
}

// checkMany compares Many with the chapter for one list and some places.
func checkMany(t *testing.T, l []api.Digest, places []int) {
	t.Helper()
	list, wanted := slices.Clone(l), slices.Clone(places)
	path, e := Many(l, places)
	if e != api.OK || !slices.Equal(path, manyOf(list, marksOf(len(list), wanted))) {
		t.Fatalf("P3.4: Many of the positions %v of %d: %x, %d", wanted, len(l), path, e)
	}
	found := pick(l, places)
	before := slices.Clone(found)
	if !CheckMany(len(l), places, found, path, rootOf(list)) {
		t.Fatalf("P3.6: the proof of the positions %v of %d is refused", wanted, len(l))
	}
	if !slices.Equal(places, wanted) || !slices.Equal(found, before) {
		t.Fatal("Many or CheckMany changes an argument")
	}
	if !isNew(path, l, list) {
		t.Fatalf("P3.4: the proof of the positions %v of %d shares memory with the list", wanted, len(l))
	}
}

func TestManyOfAnyPositions(t *testing.T) {
	r := random()
	for n := range 11 {
		l := randomDigests(r, n)
		for set := range 1 << n {
			checkMany(t, l, placesOf(set))
		}
		checkMany(t, make([]api.Digest, n), placesOf(r.IntN(1<<n)))
	}
	for _, n := range []int{31, 32, 33, 100, 257} {
		l := randomDigests(r, n)
		all := make([]int, n)
		for i := range all {
			all[i] = i
			checkMany(t, l, []int{i})
		}
		checkMany(t, l, nil)
		checkMany(t, l, all)
		for range 100 {
			r.Shuffle(n, func(i, j int) { all[i], all[j] = all[j], all[i] })
			places := slices.Clone(all[:r.IntN(n+1)])
			slices.Sort(places)
			checkMany(t, l, places)
		}
	}
}

func TestManyOfNoPositions(t *testing.T) {
	l := randomDigests(random(), 5)
	for _, x := range []struct {
		n      int
		places []int
	}{
		{0, []int{0}},
		{0, []int{-1}},
		{1, []int{1}},
		{1, []int{-1}},
		{1, []int{0, 0}},
		{1, []int{0, 1}},
		{1, []int{-1, 0}},
		{3, []int{3}},
		{3, []int{0, 3}},
		{3, []int{1, 1}},
		{3, []int{2, 1}},
		{3, []int{0, 1, 1}},
		{3, []int{0, 2, 1}},
		{3, []int{-1, 2}},
		{3, []int{math.MinInt}},
		{3, []int{math.MaxInt}},
		{3, []int{math.MaxInt, math.MinInt}},
		{3, []int{0, 1, 2, 3}},
	} {
		if path, e := Many(l[:x.n], x.places); e != api.ErrArg || len(path) != 0 {
			t.Errorf("P3.4: Many of the positions %v of %d: %x, %d", x.places, x.n, path, e)
		}
	}
}

// What is refused here would lead to the root if the places did not have to be right.
func TestCheckManyOfNoPositions(t *testing.T) {
	l := randomDigests(random(), 3)
	a, b, c := l[0], l[1], l[2]
	ab := node(a, b)
	abc := node(ab, c)
	for _, x := range []struct {
		n           int
		places      []int
		found, path []api.Digest
		root        api.Digest
	}{
		{0, []int{0}, []api.Digest{a}, nil, empty()},
		{0, []int{0}, []api.Digest{a}, nil, a},
		{0, []int{-1}, []api.Digest{a}, nil, empty()},
		{1, []int{-1}, []api.Digest{a}, nil, a},
		{1, []int{1}, []api.Digest{a}, nil, a},
		{1, []int{0, 0}, []api.Digest{a, a}, nil, a},
		{1, []int{0, 1}, []api.Digest{a, b}, nil, a},
		{1, []int{-1, 0}, []api.Digest{a, a}, nil, a},
		{2, []int{2}, []api.Digest{b}, []api.Digest{a}, ab},
		{2, []int{-1}, []api.Digest{a}, []api.Digest{b}, ab},
		{2, []int{1, 0}, []api.Digest{b, a}, nil, ab},
		{2, []int{1, 0}, []api.Digest{a, b}, nil, ab},
		{2, []int{1, 1}, []api.Digest{b, b}, []api.Digest{a}, ab},
		{2, []int{0, 0}, []api.Digest{a, a}, []api.Digest{b}, ab},
		{3, []int{0, 0, 2}, []api.Digest{a, a, c}, []api.Digest{b}, abc},
		{3, []int{0, 3}, []api.Digest{a, c}, []api.Digest{b}, abc},
		{3, []int{0, 1, 2, 3}, []api.Digest{a, b, c, c}, nil, abc},
		{3, []int{math.MinInt, 2}, []api.Digest{a, c}, []api.Digest{b}, abc},
		{3, []int{0, math.MaxInt}, []api.Digest{a, c}, []api.Digest{b}, abc},
	} {
		if CheckMany(x.n, x.places, x.found, x.path, x.root) {
			t.Errorf("P3.4: the check of the positions %v of %d", x.places, x.n)
		}
	}
}

func TestCheckManyLimits(t *testing.T) {
	l := randomDigests(random(), 3)
	a, b, c := l[0], l[1], l[2]
	last := api.MaxLeaves - 1
	for _, x := range []struct {
		n           int
		places      []int
		found, path []api.Digest
		root        api.Digest
		want        bool
	}{
		{0, nil, nil, nil, empty(), true},
		{0, nil, nil, nil, api.Digest{}, false},
		{0, nil, nil, nil, a, false},
		{0, nil, nil, []api.Digest{a}, a, false},
		{0, nil, nil, []api.Digest{empty()}, empty(), false},
		{0, nil, []api.Digest{a}, nil, empty(), false},
		{1, nil, nil, []api.Digest{a}, a, true},
		{1, nil, nil, []api.Digest{a}, b, false},
		{1, nil, nil, nil, empty(), false},
		{1, nil, nil, nil, api.Digest{}, false},
		{1, nil, []api.Digest{a}, nil, a, false},
		{1, []int{0}, nil, nil, a, false},
		{1, []int{0}, nil, []api.Digest{a}, a, false},
		{1, []int{0}, []api.Digest{a, a}, nil, a, false},
		{1, []int{0}, []api.Digest{a}, nil, a, true},
		{2, []int{0}, []api.Digest{a, b}, []api.Digest{b}, node(a, b), false},
		{2, []int{0, 1}, []api.Digest{a}, []api.Digest{b}, node(a, b), false},
		{-1, nil, nil, []api.Digest{a}, a, false},
		{-1, nil, nil, nil, empty(), false},
		{-5, []int{-6}, []api.Digest{a}, nil, a, false},
		{math.MinInt, nil, nil, []api.Digest{a}, a, false},
		{math.MaxInt, nil, nil, []api.Digest{a}, a, false},
		{api.MaxLeaves, nil, nil, []api.Digest{a}, a, true},
		{api.MaxLeaves + 1, nil, nil, []api.Digest{a}, a, false},
		{api.MaxLeaves + 1, []int{api.MaxLeaves}, []api.Digest{a}, []api.Digest{b}, node(b, a), false},
		{1<<39 + 1, []int{1 << 39}, []api.Digest{a}, []api.Digest{b}, node(b, a), true},
		{1<<39 + 1, []int{1<<39 - 1}, []api.Digest{a}, []api.Digest{b}, node(b, a), false},
		{last + 1, []int{last}, []api.Digest{a}, inOrder(c, 40), upRight(a, c, 40), true},
		{last + 1, []int{last}, []api.Digest{a}, inOrder(c, 39), upRight(a, c, 39), false},
		{last + 1, []int{last}, []api.Digest{a}, inOrder(c, 41), upRight(a, c, 41), false},
	} {
		if CheckMany(x.n, x.places, x.found, x.path, x.root) != x.want {
			t.Errorf("P3.4: the check of the positions %v of %d with %d digests is not %v", x.places, x.n, len(x.path), x.want)
		}
	}
}

func inOrder(d api.Digest, n int) []api.Digest { return slices.Repeat([]api.Digest{d}, n) }

// upRight returns the root of a list whose last element is leaf, with d as the root of each first part.
func upRight(leaf, d api.Digest, levels int) api.Digest {
	for range levels {
		leaf = node(d, leaf)
	}
	return leaf
}

// Other elements, paths, places, numbers and roots are refused, as no two pairs are known that have the same Node.
func TestManyOfAnother(t *testing.T) {
	r := random()
	for n := range 9 {
		l := randomDigests(r, n)
		root := rootOf(l)
		for set := range 1 << n {
			places := placesOf(set)
			found, path := pick(l, places), manyOf(l, marksOf(n, places))
			for _, other := range spoiltPaths(path, []api.Digest{root}) {
				if CheckMany(n, places, found, other, root) {
					t.Fatalf("P3.4: another path, the positions %v of %d", places, n)
				}
			}
			for _, other := range spoiltPaths(found, []api.Digest{root}) {
				if CheckMany(n, places, other, path, root) {
					t.Fatalf("P3.8: other elements, the positions %v of %d", places, n)
				}
			}
			for _, d := range spoilt(root) {
				if CheckMany(n, places, found, path, d) {
					t.Fatalf("P3.4: another root, the positions %v of %d", places, n)
				}
			}
			for other := range 1 << n {
				if other != set && CheckMany(n, placesOf(other), found, path, root) {
					t.Fatalf("P3.4: the positions %v instead of %v of %d", placesOf(other), places, n)
				}
			}
		}
	}
}

// The path alone counts, not that there is a list from which it comes.
func TestCheckManyOfAnyPath(t *testing.T) {
	r := random()
	check := func(n int, places []int) {
		found := randomDigests(r, len(places))
		at := map[int]api.Digest{}
		for i, place := range places {
			at[place] = found[i]
		}
		path := randomDigests(r, manyLength(0, n, places))
		root := led(0, n, places, at, path)
		before := slices.Clone(path)
		if !CheckMany(n, places, found, path, root) || CheckMany(n, places, found, path, spoilt(root)[0]) {
			t.Fatalf("P3.4: the check of the positions %v of %d with a path that leads to the root, and with another root", places, n)
		}
		if CheckMany(n, places, found, append(slices.Clone(path), root), root) || len(path) > 0 && CheckMany(n, places, found, path[1:], root) {
			t.Fatalf("P3.4: the check of the positions %v of %d with a digest more or less", places, n)
		}
		if !slices.Equal(path, before) {
			t.Fatal("CheckMany changes the path")
		}
	}
	for n := range 9 {
		for set := range 1 << n {
			check(n, placesOf(set))
		}
	}
	for _, n := range []int{100, 1 << 20, 1<<31 + 1, 1<<39 + 1, 1<<40 - 1, api.MaxLeaves} {
		check(n, []int{0, n - 1})
		check(n, []int{n/2 - 1, n / 2, n/2 + 1})
		for range 10 {
			places := []int{r.IntN(n), r.IntN(n), r.IntN(n), r.IntN(n), r.IntN(n)}
			slices.Sort(places)
			check(n, slices.Compact(places))
		}
	}
}

// What a path does not have must not count as zero.
func TestCheckManyOfAShortPath(t *testing.T) {
	zero := api.Digest{}
	a := randomDigest(random())
	for _, x := range []struct {
		n           int
		places      []int
		found, path []api.Digest
		root        api.Digest
	}{
		{1, nil, nil, nil, zero},
		{7, nil, nil, nil, zero},
		{2, []int{0}, []api.Digest{a}, nil, node(a, zero)},
		{2, []int{1}, []api.Digest{a}, nil, node(zero, a)},
		{3, []int{0}, []api.Digest{a}, []api.Digest{a}, node(node(a, a), zero)},
	} {
		if CheckMany(x.n, x.places, x.found, x.path, x.root) {
			t.Errorf("P3.4: a path that is too short, the positions %v of %d", x.places, x.n)
		}
		if !CheckMany(x.n, x.places, x.found, append(slices.Clone(x.path), zero), x.root) {
			t.Errorf("P3.4: a path with a zero digest, the positions %v of %d", x.places, x.n)
		}
	}
}
