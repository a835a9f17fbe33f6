package best

import (
	"math"
	"math/rand/v2"
	"slices"
	"testing"

	"antiquary/api"
)

// smallLists returns all lists for k out of a grid.
func smallLists(id, ver, key, k int) [][]api.Hit {
	var lists [][]api.Hit
	for n := range k + 1 {
		forLists(n, grid(id, ver, key), func(l []api.Hit) {
			if isList(l, k) {
				lists = append(lists, l)
			}
		})
	}
	return lists
}

// randomList returns a list for k, often one of k hits.
func randomList(r *rand.Rand, k int) []api.Hit {
	n := []int{r.IntN(k + 1), 3 * k, 10 * k}[r.IntN(3)]
	return leastHits(randomHits(r, n), k)
}

// listsAlike returns two lists for k that may have hits and IDs in common.
func listsAlike(r *rand.Rand, k int) ([]api.Hit, []api.Hit) {
	hits := randomHits(r, 1+r.IntN(3*k))
	var parts [2][]api.Hit
	for _, h := range hits {
		for i := range parts {
			switch r.IntN(4) {
			case 0:
				parts[i] = append(parts[i], h)
			case 1:
				h.Key = min(h.Key+r.IntN(3), mostKey)
				parts[i] = append(parts[i], h)
			case 2:
				h.Ver = max(h.Ver-r.IntN(2), 1)
				parts[i] = append(parts[i], h)
			}
		}
	}
	return leastHits(parts[0], k), leastHits(parts[1], k)
}

func checkPut(t *testing.T, l []api.Hit, k int, h api.Hit) {
	t.Helper()
	want := leastHits(append(slices.Clone(l), h), k)
	if got := Put(l, k, h); !slices.Equal(got, want) {
		t.Fatalf("P10.3: Put(%v, %d, %v) = %v, want %v", l, k, h, got, want)
	}
	if got := Enters(l, k, h); got != !slices.Equal(want, l) {
		t.Fatalf("P10.3: Enters(%v, %d, %v) = %v", l, k, h, got)
	}
}

func checkMerge(t *testing.T, a, b []api.Hit, k int) {
	t.Helper()
	want := leastHits(slices.Concat(a, b), k)
	if got := Merge(a, b, k); !slices.Equal(got, want) {
		t.Fatalf("P10.3: Merge(%v, %v, %d) = %v, want %v", a, b, k, got, want)
	}
	if got := Merge(b, a, k); !slices.Equal(got, want) {
		t.Fatalf("P10.10: Merge(%v, %v, %d) = %v, but %v in the other order", b, a, k, got, want)
	}
	if got := Merge(a, a, k); !slices.Equal(got, a) {
		t.Fatalf("P10.10: Merge(%v, %v, %d) = %v", a, a, k, got)
	}
}

func checkCommon(t *testing.T, a, b []api.Hit) {
	t.Helper()
	want := 0
	for _, h := range a {
		if hasID(b, h.ID) {
			want++
		}
	}
	if got := Common(a, b); got != want {
		t.Fatalf("P10.5: Common(%v, %v) = %d, want %d", a, b, got, want)
	}
}

func TestPutExamples(t *testing.T) {
	l := pairs(3, 2, 5, 9)
	for _, x := range []struct {
		k      int
		h      api.Hit
		want   []api.Hit
		enters bool
	}{
		{2, pairs(4, 9)[0], pairs(3, 2, 4, 9), true},
		{2, pairs(6, 9)[0], l, false},
		{3, pairs(6, 9)[0], pairs(3, 2, 5, 9, 6, 9), true},
		{3, pairs(6, mostKey)[0], pairs(3, 2, 5, 9, 6, mostKey), true},
		{2, pairs(9, 8)[0], pairs(3, 2, 9, 8), true},
		{2, pairs(9, 0)[0], pairs(9, 0, 3, 2), true},
		{2, pairs(5, 1)[0], pairs(5, 1, 3, 2), true},
		{2, pairs(5, 9)[0], l, false},
		{2, pairs(3, 2)[0], l, false},
		{3, pairs(3, 5)[0], l, false},
		{3, pairs(3, 1)[0], pairs(3, 1, 5, 9), true},
		{2, api.Hit{ID: 5, Ver: 2, Key: 9}, l, false},
		{2, api.Hit{ID: 4, Ver: 2, Key: 9}, []api.Hit{{ID: 3, Ver: 1, Key: 2}, {ID: 4, Ver: 2, Key: 9}}, true},
	} {
		if got := Put(l, x.k, x.h); !slices.Equal(got, x.want) {
			t.Errorf("P10.3: Put(%v, %d, %v) = %v, want %v", l, x.k, x.h, got, x.want)
		}
		if got := Enters(l, x.k, x.h); got != x.enters {
			t.Errorf("P10.3: Enters(%v, %d, %v) = %v", l, x.k, x.h, got)
		}
	}
	second := []api.Hit{{ID: 5, Ver: 2, Key: 9}}
	if got := Put(second, 1, pairs(5, 9)[0]); !slices.Equal(got, pairs(5, 9)) || !Enters(second, 1, pairs(5, 9)[0]) {
		t.Errorf("P10.3: Put of the version before is %v", got)
	}
	if got := Put(nil, 1, pairs(1, 1)[0]); !slices.Equal(got, pairs(1, 1)) || !Enters(nil, 1, pairs(1, 1)[0]) {
		t.Errorf("P10.3: Put to nothing is %v", got)
	}
}

func TestPutSmallLists(t *testing.T) {
	hits := append(grid(4, 2, 2), api.Hit{ID: mostID, Ver: mostVer, Key: mostKey})
	for k := 1; k <= 3; k++ {
		for _, l := range smallLists(3, 2, 2, k) {
			for _, h := range hits {
				checkPut(t, l, k, h)
			}
		}
	}
}

func TestPutRandomLists(t *testing.T) {
	r := random()
	for range 5000 {
		k := randomK(r)
		l := randomList(r, k)
		hits := randomHits(r, 3)
		for range min(len(l), 3) {
			h := l[r.IntN(len(l))]
			h.Key = min(max(h.Key+r.IntN(5)-2, 0), mostKey)
			hits = append(hits, h)
			h.Ver = min(max(h.Ver+r.IntN(5)-2, 1), mostVer)
			hits = append(hits, h)
			h.ID = min(max(h.ID+r.IntN(3)-1, 1), mostID)
			hits = append(hits, h)
		}
		for _, h := range hits {
			checkPut(t, l, k, h)
		}
	}
}

func TestMergeExamples(t *testing.T) {
	a, b := pairs(1, 1, 2, 5), pairs(2, 5, 9, 6)
	for _, x := range []struct {
		a, b []api.Hit
		k    int
		want []api.Hit
	}{
		{a, b, 3, pairs(1, 1, 2, 5, 9, 6)},
		{a, b, 2, a},
		{a, b, 64, pairs(1, 1, 2, 5, 9, 6)},
		{a, nil, 2, a},
		{nil, nil, 1, nil},
		{pairs(1, 3, 2, 5), pairs(2, 1, 1, 4), 2, pairs(2, 1, 1, 3)},
		{pairs(1, 3, 2, 3), pairs(1, 3, 3, 3), 2, pairs(1, 3, 2, 3)},
		{pairs(4, 1, 5, 2), pairs(6, 3, 7, 4), 2, pairs(4, 1, 5, 2)},
		{[]api.Hit{{ID: 1, Ver: 2, Key: 3}}, pairs(1, 3), 1, pairs(1, 3)},
	} {
		for _, got := range [][]api.Hit{Merge(x.a, x.b, x.k), Merge(x.b, x.a, x.k)} {
			if !slices.Equal(got, x.want) {
				t.Errorf("P10.3: Merge(%v, %v, %d) = %v, want %v", x.a, x.b, x.k, got, x.want)
			}
		}
	}
}

func TestMergeSmallLists(t *testing.T) {
	for k := 1; k <= 3; k++ {
		lists := smallLists(3, 2, 1, k)
		for _, a := range lists {
			for _, b := range lists {
				checkMerge(t, a, b, k)
			}
		}
	}
}

func TestMergeRandomLists(t *testing.T) {
	r := random()
	for range 3000 {
		k := randomK(r)
		a, b := listsAlike(r, k)
		checkMerge(t, a, b, k)
		checkMerge(t, randomList(r, k), randomList(r, k), k)
	}
}

func TestWorst(t *testing.T) {
	for _, x := range []struct {
		l       []api.Hit
		k, want int
	}{
		{pairs(3, 2, 5, 9), 2, 8}, {pairs(3, 2, 5, 9), 3, mostKey}, {pairs(3, 2, 5, 9), 64, mostKey},
		{nil, 1, mostKey}, {nil, 64, mostKey}, {pairs(1, 0), 1, -1}, {pairs(1, 1), 1, 0}, {pairs(1, 0), 2, mostKey},
		{pairs(1, 0, 2, 0), 2, -1}, {pairs(1, mostKey), 1, mostKey - 1}, {pairs(1, mostKey), 2, mostKey},
		{ladder(64), 64, 629}, {ladder(63), 64, mostKey}, {ladder(63), 63, 619},
	} {
		if got := Worst(x.l, x.k); got != x.want {
			t.Errorf("P10.4: Worst(%v, %d) = %d, want %d", x.l, x.k, got, x.want)
		}
	}
}

// enters reads P10.3 literally.
func enters(l []api.Hit, k int, h api.Hit) bool {
	return !slices.Equal(leastHits(append(slices.Clone(l), h), k), l)
}

// newIDs returns IDs that are not in a list: the least and the greatest of them, and those beside its own.
func newIDs(l []api.Hit) []int {
	candidates := []int{1, 2, 3, 4, mostID - 3, mostID - 2, mostID - 1, mostID}
	for _, h := range l {
		candidates = append(candidates, h.ID-1, h.ID+1)
	}
	return slices.DeleteFunc(candidates, func(id int) bool { return id < 1 || id > mostID || hasID(l, id) })
}

// checkWorst checks what P10.4 and P10.9 say of keys around Worst.
func checkWorst(t *testing.T, l []api.Hit, k int) {
	t.Helper()
	worst := Worst(l, k)
	for _, id := range newIDs(l) {
		for _, ver := range []int{1, mostVer} {
			for _, key := range []int{0, worst - 1, worst, worst + 1, worst + 2, worst + 3, mostKey} {
				if key < 0 || key > mostKey {
					continue
				}
				h := api.Hit{ID: id, Ver: ver, Key: key}
				is := Enters(l, k, h)
				if is != enters(l, k, h) {
					t.Fatalf("P10.3: Enters(%v, %d, %v) = %v", l, k, h, is)
				}
				if key <= worst && !is || key >= worst+2 && is {
					t.Fatalf("P10.9: Worst(%v, %d) = %d, and Enters of %v is %v", l, k, worst, h, is)
				}
			}
		}
	}
	last := api.Hit{ID: mostID, Ver: mostVer, Key: worst + 1}
	if worst < mostKey && !hasID(l, mostID) && enters(l, k, last) { // only then is there an ID with which the next key does not enter
		t.Fatalf("P10.4: Worst(%v, %d) = %d, but also %v enters", l, k, worst, last)
	}
}

func TestWorstRule(t *testing.T) {
	for k := 1; k <= 3; k++ {
		for _, l := range smallLists(3, 2, 2, k) {
			checkWorst(t, l, k)
		}
	}
	r := random()
	for range 1500 {
		k := min(randomK(r), 12)
		checkWorst(t, randomList(r, k), k)
	}
}

func TestCommon(t *testing.T) {
	for _, x := range []struct {
		a, b []api.Hit
		want int
	}{
		{pairs(1, 1, 2, 5), pairs(2, 5, 9, 6), 1}, {pairs(1, 1, 2, 5), pairs(2, 3, 1, 4), 2}, {pairs(1, 1, 2, 5), pairs(3, 1, 4, 5), 0},
		{nil, nil, 0}, {pairs(1, 1), nil, 0}, {ladder(64), ladder(64), 64}, {ladder(64), ladder(20), 20},
		{[]api.Hit{{ID: 1, Ver: 1, Key: 0}}, []api.Hit{{ID: 1, Ver: 2, Key: 7}}, 1},
	} {
		if Common(x.a, x.b) != x.want || Common(x.b, x.a) != x.want {
			t.Errorf("P10.5: Common(%v, %v) = %d, %d, want %d", x.a, x.b, Common(x.a, x.b), Common(x.b, x.a), x.want)
		}
	}
	lists := smallLists(3, 2, 1, 3)
	for _, a := range lists {
		for _, b := range lists {
			checkCommon(t, a, b)
		}
	}
	r := random()
	for range 3000 {
		a, b := listsAlike(r, randomK(r))
		checkCommon(t, a, b)
		checkCommon(t, a, randomList(r, randomK(r)))
	}
}

// spoil overwrites all that a list can reach.
func spoil(l []api.Hit) {
	l = l[:cap(l)]
	for i := range l {
		l[i] = api.Hit{ID: -7, Ver: -7, Key: -7}
	}
}

func TestResultsAreNewMemory(t *testing.T) {
	whole := ladder(20)
	for _, l := range [][]api.Hit{whole[:5], whole[:5:5], whole[:0]} { // behind the first one there is room, with other hits
		other := pairs(1, 5, 2, 45, 3, 200)[:len(l)/2+1]
		before, otherBefore := slices.Clone(whole), slices.Clone(other)
		far := api.Hit{ID: 9, Ver: 1, Key: mostKey}
		for _, k := range []int{len(l), len(l) + 1, 64} {
			for i, result := range [][]api.Hit{
				Of(l, max(k, 1)), Put(l, max(k, 1), far), Put(l, max(k, 1), api.Hit{ID: 9, Ver: 1, Key: 0}), Merge(l, l, max(k, 1)),
				Merge(l, nil, max(k, 1)), Merge(nil, l, max(k, 1)), Merge(l, other, 64), Merge(other, l, 64),
			} {
				spoil(result)
				if !slices.Equal(whole, before) || !slices.Equal(other, otherBefore) {
					t.Fatalf("results share memory with arguments: %d", i)
				}
			}
		}
		Valid(l, 64)
		Enters(l, 64, far)
		Worst(l, 64)
		Common(l, other)
		Encode(l)
		if !slices.Equal(whole, before) || !slices.Equal(other, otherBefore) {
			t.Fatal("arguments are changed")
		}
	}
	shuffled := pairs(5, 9, 3, 4, 7, 9, 3, 2)
	Of(shuffled, 2)
	if !slices.Equal(shuffled, pairs(5, 9, 3, 4, 7, 9, 3, 2)) {
		t.Error("Of sorts its argument")
	}
}

// TestUnspecified calls functions with what the chapter does not specify: they do not panic.
func TestUnspecified(t *testing.T) {
	lists := [][]api.Hit{
		nil, {}, {{}}, pairs(2, 5, 1, 1), pairs(1, 1, 1, 1), pairs(1, -1, -5, 7), ladder(100),
		{{ID: math.MinInt, Ver: math.MaxInt, Key: math.MinInt}, {ID: math.MaxInt, Ver: math.MinInt, Key: math.MaxInt}},
	}
	for _, l := range lists {
		for _, k := range []int{math.MinInt, -1, 0, 1, 2, 64, 65, math.MaxInt} {
			Of(l, k)
			Worst(l, k)
			for _, other := range lists {
				Merge(l, other, k)
				Common(l, other)
			}
			for _, h := range append(slices.Clone(lists[7]), api.Hit{}, pairs(1, 1)[0]) {
				Put(l, k, h)
				Enters(l, k, h)
			}
			Decode(Encode(l), k)
		}
	}
}
