package code

import (
	"math"
	"math/rand/v2"
	"reflect"
	"slices"
	"testing"

	"antiquary/api"
)

var metrics = []int{api.MeSum, api.MeEuclid, api.MeMax}

func random() *rand.Rand { return rand.New(rand.NewPCG(8, 23)) }

// example returns the codebook of the chapter.
func example() api.Codebook {
	return api.Codebook{Dims: 3, Cuts: []int{0, 2}, Words: [][][]int{{{0, 0}, {3, 4}}, {{5}, {-5}}}}
}

// full returns a list of n equal numbers.
func full(n, x int) []int {
	l := make([]int, n)
	for i := range l {
		l[i] = x
	}
	return l
}

// grid returns all lists of n numbers from lo to hi.
func grid(n, lo, hi int) [][]int {
	all := [][]int{{}}
	for range n {
		var longer [][]int
		for _, v := range all {
			for x := lo; x <= hi; x++ {
				longer = append(longer, append(slices.Clone(v), x))
			}
		}
		all = longer
	}
	return all
}

// randomList returns n coordinates up to a width, often at its ends.
func randomList(r *rand.Rand, n, width int) []int {
	v := make([]int, n)
	for i := range v {
		v[i] = r.IntN(2*width+1) - width
		if r.IntN(5) == 0 {
			v[i] = width * (1 - 2*r.IntN(2))
		}
	}
	return v
}

// randomWidth returns how far coordinates go: the narrower, the more keys are equal.
func randomWidth(r *rand.Rand) int { return []int{1, 2, 9, 1000, 1000}[r.IntN(5)] }

// randomCuts returns cuts that divide dims coordinates.
func randomCuts(r *rand.Rand, dims int) []int {
	others := r.Perm(dims)
	others = slices.DeleteFunc(others, func(x int) bool { return x == 0 })
	cuts := append(others[:r.IntN(min(len(others), 7)+1)], 0)
	slices.Sort(cuts)
	return cuts
}

// lengths returns how many coordinates the parts have.
func lengths(dims int, cuts []int) []int {
	var l []int
	for i := range cuts {
		if i == len(cuts)-1 {
			l = append(l, dims-cuts[i])
		} else {
			l = append(l, cuts[i+1]-cuts[i])
		}
	}
	return l
}

// randomBook returns a codebook that is right, with at most so many words for a part.
func randomBook(r *rand.Rand, dims, width, most int) api.Codebook {
	b := api.Codebook{Dims: dims, Cuts: randomCuts(r, dims)}
	for _, n := range lengths(dims, b.Cuts) {
		var words [][]int
		for range 1 + r.IntN(most) {
			words = append(words, randomList(r, n, width))
		}
		b.Words = append(b.Words, words)
	}
	return b
}

// keyOf is the key of two vectors, as layer 4 defines it.
func keyOf(metric int, a, b []int) int {
	sum, squares, most := 0, 0, 0
	for i := range a {
		d := a[i] - b[i]
		if d < 0 {
			d = -d
		}
		sum += d
		squares += d * d
		if d > most {
			most = d
		}
	}
	return map[int]int{api.MeSum: sum, api.MeEuclid: squares, api.MeMax: most}[metric]
}

// tableOf reads P8.3 literally: it takes the parts from their end to their beginning.
func tableOf(b api.Codebook, metric int, q []int) [][]int {
	table := make([][]int, len(b.Cuts))
	rest := q
	for i := len(b.Cuts) - 1; i >= 0; i-- {
		part := rest[b.Cuts[i]:]
		rest = rest[:b.Cuts[i]]
		for _, w := range b.Words[i] {
			table[i] = append(table[i], keyOf(metric, w, part))
		}
	}
	return table
}

// codeOf reads P8.2 literally: the first word that no word of its part is nearer than.
func codeOf(b api.Codebook, metric int, v []int) []int {
	var code []int
	for _, keys := range tableOf(b, metric, v) {
		for number, key := range keys {
			if !slices.ContainsFunc(keys, func(other int) bool { return other < key }) {
				code = append(code, number)
				break
			}
		}
	}
	return code
}

// wordsOf returns the vector that the words of a code make.
func wordsOf(b api.Codebook, code []int) []int {
	var v []int
	for i, number := range code {
		v = append(v, b.Words[i][number]...)
	}
	return v
}

// randomCode returns a code of a codebook.
func randomCode(r *rand.Rand, b api.Codebook) []int {
	var code []int
	for _, words := range b.Words {
		code = append(code, r.IntN(len(words)))
	}
	return code
}

// allCodes returns all codes of a codebook.
func allCodes(b api.Codebook) [][]int {
	all := [][]int{{}}
	for _, words := range b.Words {
		var longer [][]int
		for _, code := range all {
			for number := range words {
				longer = append(longer, append(slices.Clone(code), number))
			}
		}
		all = longer
	}
	return all
}

// checkCode checks Encode, Decode and Residual for a vector.
func checkCode(t *testing.T, b api.Codebook, metric int, v []int) {
	t.Helper()
	want := codeOf(b, metric, v)
	if got := Encode(b, metric, v); !slices.Equal(got, want) {
		t.Fatalf("P8.2: Encode(%v, %d, %v) = %v, want %v", b, metric, v, got, want)
	}
	decoded := wordsOf(b, want)
	if got, e := Decode(b, want); e != api.OK || !slices.Equal(got, decoded) {
		t.Fatalf("P8.2: Decode(%v, %v) = %v, %d, want %v", b, want, got, e, decoded)
	}
	if got, residual := Residual(b, metric, v), keyOf(metric, v, decoded); got != residual {
		t.Fatalf("P8.2: Residual(%v, %d, %v) = %d, want %d", b, metric, v, got, residual)
	}
}

func TestCodeExamples(t *testing.T) {
	b := example()
	if got := Encode(b, api.MeEuclid, []int{1, 1, 4}); !slices.Equal(got, []int{0, 0}) {
		t.Errorf("P8.2: Encode of the example is %v", got)
	}
	if got, e := Decode(b, []int{1, 1}); e != api.OK || !slices.Equal(got, []int{3, 4, -5}) {
		t.Errorf("P8.2: Decode of the example is %v, %d", got, e)
	}
	if got := Residual(b, api.MeEuclid, []int{1, 1, 4}); got != 3 {
		t.Errorf("P8.2: Residual of the example is %d", got)
	}
	table := Table(b, api.MeEuclid, []int{0, 0, 0})
	if !reflect.DeepEqual(table, [][]int{{0, 25}, {25, 25}}) {
		t.Errorf("P8.3: Table of the example is %v", table)
	}
	if got := Sum(api.MeEuclid, table, []int{1, 1}); got != 50 {
		t.Errorf("P8.3: Sum of the example is %d", got)
	}
	if low, high := Bounds(api.MeEuclid, 50, 3); low != 29 || high != 77 {
		t.Errorf("P8.4: Bounds of the example are %d and %d", low, high)
	}
	got, e := Train([][]int{{0, 0, 5}, {3, 4, 5}, {3, 4, -5}}, []int{0, 2}, 9)
	if e != api.OK || !reflect.DeepEqual(got, b) {
		t.Errorf("P8.5: Train of the example is %v, %d", got, e)
	}
}

func TestCode(t *testing.T) {
	for _, metric := range metrics {
		for _, v := range grid(3, -6, 6) {
			checkCode(t, example(), metric, v)
		}
	}
	r := random()
	for range 4000 {
		width := randomWidth(r)
		dims := 1 + r.IntN(api.MaxDims)
		b := randomBook(r, dims, width, 1+r.IntN(6))
		for range 3 {
			v := randomList(r, dims, width)
			for _, metric := range metrics {
				checkCode(t, b, metric, v)
			}
		}
	}
	for range 30 {
		b := randomBook(r, api.MaxDims, 1000, api.MaxBookWords)
		for _, metric := range metrics {
			checkCode(t, b, metric, randomList(r, api.MaxDims, 1000))
		}
	}
}

// TestFirstOfSeveral lets every word of a part be among those that are nearest.
func TestFirstOfSeveral(t *testing.T) {
	for _, metric := range metrics {
		for first := range 5 {
			for second := first + 1; second < 6; second++ {
				words := slices.Repeat([][]int{{900, 1}}, 6)
				words[first], words[second] = []int{-4, 7}, []int{4, 7}
				b := api.Codebook{Dims: 2, Cuts: []int{0}, Words: [][][]int{words}}
				if got := Encode(b, metric, []int{0, 0}); !slices.Equal(got, []int{first}) {
					t.Errorf("P8.2: the code is %v, want %d", got, first)
				}
				words[second] = []int{3, 7}
				if got := Encode(b, metric, []int{3, 7}); !slices.Equal(got, []int{second}) {
					t.Errorf("P8.2: the code is %v, want %d", got, second)
				}
			}
		}
	}
}

// TestMost has the greatest keys that there are.
func TestMost(t *testing.T) {
	for dims := 1; dims <= api.MaxDims; dims++ {
		for n := 1; n <= min(dims, api.MaxParts); n++ {
			b := api.Codebook{Dims: dims}
			for i := range n {
				b.Cuts = append(b.Cuts, i)
			}
			for _, length := range lengths(dims, b.Cuts) {
				b.Words = append(b.Words, [][]int{full(length, 1000)})
			}
			v := full(dims, -1000)
			for metric, want := range map[int]int{api.MeSum: 2000 * dims, api.MeEuclid: 4000000 * dims, api.MeMax: 2000} {
				if got := Residual(b, metric, v); got != want {
					t.Errorf("P8.2: the greatest residual of metric %d and %d coordinates is %d", metric, dims, got)
				}
				if got := Sum(metric, Table(b, metric, v), full(n, 0)); got != want {
					t.Errorf("P8.3: the greatest sum of metric %d and %d coordinates is %d", metric, dims, got)
				}
			}
		}
	}
}

func checkNoCode(t *testing.T, b api.Codebook, code []int) {
	t.Helper()
	if v, e := Decode(b, code); e != api.ErrArg || len(v) != 0 {
		t.Errorf("P8.2: Decode(%v, %v) = %v, %d", b, code, v, e)
	}
}

func TestDecode(t *testing.T) {
	r := random()
	for range 300 {
		b := randomBook(r, 1+r.IntN(api.MaxDims), 1000, 3)
		n := len(b.Cuts)
		for _, code := range allCodes(b) {
			if v, e := Decode(b, code); e != api.OK || !slices.Equal(v, wordsOf(b, code)) {
				t.Fatalf("P8.2: Decode(%v, %v) = %v, %d", b, code, v, e)
			}
		}
		code := randomCode(r, b)
		for length := range 12 {
			if length != n {
				checkNoCode(t, b, full(length, 0))
			}
		}
		checkNoCode(t, b, nil)
		checkNoCode(t, b, code[1:])
		checkNoCode(t, b, append(slices.Clone(code), 0))
		for i := range n {
			for _, number := range []int{-1, -2, len(b.Words[i]), len(b.Words[i]) + 1, 256, 1 << 32, -1 << 32, math.MaxInt, math.MinInt} {
				wrong := slices.Clone(code)
				wrong[i] = number
				checkNoCode(t, b, wrong)
			}
		}
	}
	words := make([][]int, api.MaxBookWords)
	for i := range words {
		words[i] = []int{i}
	}
	b := api.Codebook{Dims: 2, Cuts: []int{0, 1}, Words: [][][]int{words, words[:255]}}
	if v, e := Decode(b, []int{255, 254}); e != api.OK || !slices.Equal(v, []int{255, 254}) {
		t.Errorf("P8.2: Decode is %v, %d", v, e)
	}
	checkNoCode(t, b, []int{255, 255})
	checkNoCode(t, b, []int{256, 254})
}

func TestTableAndSum(t *testing.T) {
	r := random()
	for range 3000 {
		width := randomWidth(r)
		dims := 1 + r.IntN(api.MaxDims)
		b := randomBook(r, dims, width, 1+r.IntN(6))
		q := randomList(r, dims, width)
		for _, metric := range metrics {
			want := tableOf(b, metric, q)
			table := Table(b, metric, q)
			if !reflect.DeepEqual(table, want) {
				t.Fatalf("P8.3: Table(%v, %d, %v) = %v, want %v", b, metric, q, table, want)
			}
			code := randomCode(r, b)
			sum, most := 0, 0
			for i, number := range code {
				sum += want[i][number]
				most = max(most, want[i][number])
			}
			if metric == api.MeMax {
				sum = most
			}
			got := Sum(metric, table, code)
			if got != sum {
				t.Fatalf("P8.3: Sum(%d, %v, %v) = %d, want %d", metric, table, code, got, sum)
			}
			if key := keyOf(metric, q, wordsOf(b, code)); got != key {
				t.Fatalf("P8.7: Sum(%d, %v, %v) = %d, but the key is %d", metric, table, code, got, key)
			}
		}
	}
}

// TestSumSmall has all codes of all tables of two parts with small keys.
func TestSumSmall(t *testing.T) {
	for _, keys := range grid(4, 0, 3) {
		table := [][]int{keys[:2], keys[2:]}
		for _, code := range grid(2, 0, 1) {
			x, y := table[0][code[0]], table[1][code[1]]
			for metric, want := range map[int]int{api.MeSum: x + y, api.MeEuclid: x + y, api.MeMax: max(x, y)} {
				if got := Sum(metric, table, code); got != want {
					t.Errorf("P8.3: Sum(%d, %v, %v) = %d, want %d", metric, table, code, got, want)
				}
			}
		}
	}
}

func TestNewMemory(t *testing.T) {
	b, v, code := example(), []int{1, 1, 4}, []int{1, 1}
	table := Table(b, api.MeEuclid, v)
	l := [][]int{{0, 0, 5}, {3, 4, 5}, {3, 4, -5}}
	cuts := []int{0, 2}
	spoil := func(l []int) {
		for i := range l {
			l[i] = 77
		}
		_ = append(l, 78, 79)
	}
	for range 2 {
		spoil(Encode(b, api.MeSum, v))
		decoded, _ := Decode(b, code)
		spoil(decoded)
		for _, keys := range Table(b, api.MeEuclid, v) {
			spoil(keys)
		}
		one, e := Train(l, cuts, 9)
		if e != api.OK || !reflect.DeepEqual(one, example()) {
			t.Fatalf("P8.5: Train is %v, %d", one, e)
		}
		spoil(one.Cuts)
		for i, words := range one.Words {
			one.Words[i] = append(words, []int{7})
			for _, word := range words {
				spoil(word)
			}
		}
		Residual(b, api.MeMax, v)
		Worst(b, api.MeMax, l)
		Sum(api.MeEuclid, table, code)
		Check(b)
	}
	if !reflect.DeepEqual(b, example()) || !slices.Equal(v, []int{1, 1, 4}) || !slices.Equal(code, []int{1, 1}) || !slices.Equal(cuts, []int{0, 2}) {
		t.Errorf("P8.5: results share memory with arguments: %v, %v, %v, %v", b, v, code, cuts)
	}
	if !reflect.DeepEqual(l, [][]int{{0, 0, 5}, {3, 4, 5}, {3, 4, -5}}) || !reflect.DeepEqual(table, [][]int{{2, 13}, {1, 81}}) {
		t.Errorf("P8.5: results share memory with arguments: %v, %v", l, table)
	}
}

// TestNoSharing changes each list of a result, and looks at the others.
func TestNoSharing(t *testing.T) {
	l := [][]int{{1, 1, 1, 1}, {2, 2, 2, 2}, {9, 9, 9, 9}}
	want, _ := Train(l, []int{0, 1, 2}, 3)
	for i := range want.Words {
		for k := range want.Words[i] {
			got, _ := Train(l, []int{0, 1, 2}, 3)
			got.Words[i][k][0] = 50
			got.Words[i][k] = append(got.Words[i][k], 51, 52)[:len(want.Words[i][k])]
			got.Words[i][k][0] = want.Words[i][k][0]
			if !reflect.DeepEqual(got, want) {
				t.Errorf("P8.5: words share memory: %v", got)
			}
		}
	}
	table := Table(want, api.MeSum, l[1])
	rows := Table(want, api.MeSum, l[1])
	for i := range rows {
		_ = append(rows[i], 53, 54, 55)
		rows[i][0] = table[i][0]
	}
	if !reflect.DeepEqual(rows, table) {
		t.Errorf("P8.3: rows share memory: %v", rows)
	}
}

// TestUnspecified calls with what nothing is said of: no call may panic.
func TestUnspecified(t *testing.T) {
	vectors := [][]int{nil, {0}, {1, 2, 3}, {math.MinInt, math.MaxInt, 0}, full(33, 1), full(99, -5)}
	codes := [][]int{nil, {0}, {0, 0}, {-1, 5}, {math.MinInt, math.MaxInt}, full(99, 0)}
	tables := [][][]int{nil, {nil}, {{}, {1}}, {{1, 2}, {math.MaxInt}}, make([][]int, 99)}
	for _, b := range append(wrongBooks(), example()) {
		for _, metric := range []int{api.MeSum, api.MeEuclid, api.MeMax, -1, 99, math.MinInt} {
			for _, v := range vectors {
				Encode(b, metric, v)
				Residual(b, metric, v)
				Table(b, metric, v)
			}
			Worst(b, metric, vectors)
			for _, code := range codes {
				Decode(b, code)
				for _, table := range tables {
					Sum(metric, table, code)
				}
			}
		}
	}
	for _, metric := range []int{api.MeSum, api.MeEuclid, api.MeMax, -1, 99, math.MinInt} {
		for _, key := range []int{math.MinInt, -1, 0, 5, 1 << 27, 1 << 40, math.MaxInt} {
			Bounds(metric, key, 3)
			Bounds(metric, 3, key)
		}
	}
}
