package seal

import (
	"math"
	"math/rand/v2"
	"slices"
	"strings"
	"testing"

	"antiquary/api"
)

// The limits, as DOC.md writes them.
const (
	mostParty  = 2147483648
	mostDay    = 1048576
	mostKeys   = 500
	mostSecret = 64
)

func random() *rand.Rand { return rand.New(rand.NewPCG(12, 35)) }

// isValid reads the terms of the chapter literally.
func isValid(k api.Key) bool {
	if k.Party < 1 || k.Party > mostParty {
		return false
	}
	if k.Serial < 1 || k.Serial > mostParty {
		return false
	}
	if len(k.Secret) < 1 || len(k.Secret) > mostSecret {
		return false
	}
	if k.From < 0 || k.From >= k.To {
		return false
	}
	return k.To <= mostDay+1
}

// ascends reports whether a key comes before another one in a ring.
func ascends(a, b api.Key) bool {
	return a.Party < b.Party || a.Party == b.Party && a.Serial < b.Serial
}

// isRing reads the terms of the chapter literally: each key is compared with all others.
func isRing(l []api.Key) bool {
	if len(l) > mostKeys {
		return false
	}
	for i, k := range l {
		if !isValid(k) {
			return false
		}
		for _, later := range l[i+1:] {
			if !ascends(k, later) {
				return false
			}
		}
	}
	return true
}

// key returns a key with a secret that no other one of a test has.
func key(party, serial, from, to int) api.Key {
	secret := string([]byte{'k', byte(party), byte(party >> 8), byte(serial), byte(serial >> 8)})
	return api.Key{Party: party, Serial: serial, Secret: secret, From: from, To: to}
}

// spare returns a copy of a list with room for more, in which there is something already.
func spare(l []api.Key) []api.Key {
	room := slices.Concat(l, slices.Repeat([]api.Key{key(77, 77, 7, 77)}, 3))
	return room[:len(l)]
}

// isUnchanged reports whether spare of a list is still as it was.
func isUnchanged(given, l []api.Key) bool {
	return slices.Equal(given[:len(l)+3], spare(l)[:len(l)+3])
}

// spoil overwrites a result, and all the room behind it.
func spoil(l []api.Key) {
	l = l[:cap(l)]
	for i := range l {
		l[i] = api.Key{Secret: "spoilt"}
	}
}

// pairs are parties and serial numbers around each other, and at the limits.
var pairs = [][2]int{{1, 1}, {1, 2}, {1, mostParty}, {2, 1}, {2, 2}, {api.OfficeParty, 1}, {api.OfficeParty + 1, 3}, {mostParty, 1}, {mostParty, mostParty}}

// smallRings returns the rings with all choices of some pairs.
func smallRings(pairs [][2]int) [][]api.Key {
	var rings [][]api.Key
	for chosen := range 1 << len(pairs) {
		var ring []api.Key
		for i, pair := range pairs {
			if chosen>>i&1 == 1 {
				ring = append(ring, key(pair[0], pair[1], i, i+5))
			}
		}
		rings = append(rings, ring)
	}
	return rings
}

// randomKey returns a key of one of the first parties, for some days.
func randomKey(r *rand.Rand, parties, serials, days int) api.Key {
	from := r.IntN(days)
	return key(1+r.IntN(parties), 1+r.IntN(serials), from, from+1+r.IntN(days-from))
}

// randomRing returns a ring with at most n keys.
func randomRing(r *rand.Rand, n, parties, serials, days int) []api.Key {
	var ring []api.Key
	for range n {
		k := randomKey(r, parties, serials, days)
		if !slices.ContainsFunc(ring, func(have api.Key) bool { return have.Party == k.Party && have.Serial == k.Serial }) {
			ring = append(ring, k)
		}
	}
	slices.SortFunc(ring, func(a, b api.Key) int {
		if ascends(a, b) {
			return -1
		}
		return 1
	})
	return ring
}

// fullRing returns a ring of as many keys as there may be, two for each party.
func fullRing() []api.Key {
	var ring []api.Key
	for i := range mostKeys {
		ring = append(ring, key(10+i/2*3, 2+i%2*4, i, i+100))
	}
	return ring
}

func TestValid(t *testing.T) {
	good := api.Key{Party: 5, Serial: 1, Secret: "s", From: 0, To: 100}
	numbers := []int{math.MinInt, -1, 0, 1, 2, 7, 99, 100, 101, 500, mostDay - 1, mostDay, mostDay + 1, mostDay + 2, api.OfficeParty, mostParty - 1, mostParty, mostParty + 1, 1 << 32, 1<<32 + 1, math.MaxInt}
	check := func(k api.Key) {
		if is, want := Valid(k), isValid(k); is != want {
			t.Errorf("P12.1: Valid(%v) = %v, not %v", k, is, want)
		}
		if is, want := Ring([]api.Key{k}), isValid(k); is != want {
			t.Errorf("P12.1: Ring of %v alone is %v, not %v", k, is, want)
		}
	}
	for _, a := range numbers {
		for _, b := range numbers {
			k := good
			k.Party, k.Serial = a, b
			check(k)
			k = good
			k.From, k.To = a, b
			check(k)
		}
	}
	for n := range 70 {
		k := good
		k.Secret = strings.Repeat("\x00", n)
		check(k)
		k.Secret = strings.Repeat("é", n)
		check(k)
	}
	if !Valid(good) || Valid(api.Key{}) {
		t.Errorf("P12.1: Valid(%v) = %v; Valid of the zero key is %v", good, Valid(good), Valid(api.Key{}))
	}
}

func TestRing(t *testing.T) {
	keys := []api.Key{key(1, 1, 0, 5), key(1, 2, 3, 4), key(2, 1, 0, 9), key(2, 2, 5, 6), key(1, 1, 7, 8), key(3, 0, 0, 5), {}}
	if !Ring(nil) || !Ring([]api.Key{}) {
		t.Errorf("P12.1: a list without keys is no ring")
	}
	var try func(l []api.Key)
	try = func(l []api.Key) {
		if is, want := Ring(l), isRing(l); is != want {
			t.Errorf("P12.1: Ring(%v) = %v, not %v", l, is, want)
		}
		if len(l) < 4 {
			for _, k := range keys {
				try(slices.Concat(l, []api.Key{k}))
			}
		}
	}
	try(nil)
}

func TestRingOfAllSizes(t *testing.T) {
	for n := range mostKeys + 3 {
		var l []api.Key
		for i := range n {
			l = append(l, key(1+i, 1, 0, 1))
		}
		if is, want := Ring(l), n <= mostKeys; is != want {
			t.Errorf("P12.1: Ring of %d keys is %v, not %v", n, is, want)
		}
	}
}

func TestRingWithSomethingWrongAtEveryPlace(t *testing.T) {
	full := fullRing()
	if !Ring(full) {
		t.Fatalf("P12.1: the full ring is none")
	}
	for i := range full {
		for _, change := range []func(k *api.Key){
			func(k *api.Key) { k.Party = 0 },
			func(k *api.Key) { k.Serial = 0 },
			func(k *api.Key) { k.Serial = mostParty + 1 },
			func(k *api.Key) { k.Secret = "" },
			func(k *api.Key) { k.From = k.To },
			func(k *api.Key) { k.From = -1 },
			func(k *api.Key) { k.To = mostDay + 2 },
		} {
			wrong := slices.Clone(full)
			change(&wrong[i])
			if Ring(wrong) {
				t.Errorf("P12.1: a ring may have %v at %d", wrong[i], i)
			}
		}
		if i == 0 {
			continue
		}
		wrong := slices.Clone(full)
		wrong[i-1], wrong[i] = wrong[i], wrong[i-1]
		if Ring(wrong) {
			t.Errorf("P12.1: a ring may be out of order at %d", i)
		}
		wrong = slices.Clone(full)
		wrong[i].Party, wrong[i].Serial = wrong[i-1].Party, wrong[i-1].Serial
		if Ring(wrong) {
			t.Errorf("P12.1: a ring may have a pair twice at %d", i)
		}
	}
}

// added reads the promise literally: the key is put behind all others, and the least pairs are chosen one after the other.
func added(ring []api.Key, k api.Key) ([]api.Key, api.Errno) {
	if !isValid(k) {
		return nil, api.ErrArg
	}
	for _, have := range ring {
		if have.Party == k.Party && have.Serial == k.Serial {
			return nil, api.ErrTwice
		}
	}
	if len(ring) == mostKeys {
		return nil, api.ErrLimit
	}
	rest := slices.Concat(ring, []api.Key{k})
	var want []api.Key
	for len(rest) > 0 {
		least := 0
		for i := range rest {
			if ascends(rest[i], rest[least]) {
				least = i
			}
		}
		want = append(want, rest[least])
		rest = slices.Delete(rest, least, least+1)
	}
	return want, api.OK
}

// checkAdd compares Add with its literal reading.
func checkAdd(t *testing.T, ring []api.Key, k api.Key) {
	t.Helper()
	given := spare(ring)
	got, e := Add(given, k)
	want, wantE := added(ring, k)
	if e != wantE || !slices.Equal(got, want) {
		t.Errorf("P12.1: Add(%v, %v) = %v, %v, not %v, %v", ring, k, got, e, want, wantE)
	}
	if e == api.OK && !isRing(got) {
		t.Errorf("P12.6: Add(%v, %v) is no ring: %v", ring, k, got)
	}
	spoil(got)
	if !isUnchanged(given, ring) {
		t.Errorf("P12.1: Add(%v, %v) shares memory with its argument, or changes it", ring, k)
	}
}

func TestAdd(t *testing.T) {
	for _, ring := range smallRings(pairs) {
		for _, pair := range pairs {
			checkAdd(t, ring, key(pair[0], pair[1], 3, 4))
			checkAdd(t, ring, key(pair[0], pair[1], 4, 4)) // not valid, whether the pair is there or not
		}
		checkAdd(t, ring, key(1, 3, 0, 1))
		checkAdd(t, ring, key(3, 1, 0, 1))
		checkAdd(t, ring, key(mostParty+1, 1, 0, 1))
		checkAdd(t, ring, api.Key{})
	}
}

func TestAddToAFullRing(t *testing.T) {
	full := fullRing()
	free := []api.Key{key(1, 1, 0, 1), key(10, 3, 0, 1), key(300, 9, 0, 1), key(mostParty, 1, 0, 1)}
	for _, k := range free {
		checkAdd(t, full, k) // api.ErrLimit
	}
	for i, k := range full {
		checkAdd(t, full, k) // api.ErrTwice
		invalid := k
		invalid.Secret = ""
		checkAdd(t, full, invalid) // api.ErrArg
		less := slices.Delete(slices.Clone(full), i, i+1)
		checkAdd(t, less, k)
		if got, e := Add(less, k); e != api.OK || !slices.Equal(got, full) {
			t.Errorf("P12.1: the key at %d is not added in its place: %v", i, e)
		}
	}
}

func TestAddInAnyOrder(t *testing.T) {
	r := random()
	for range 30 {
		want := randomRing(r, mostKeys, 40, 40, 1000)
		var ring []api.Key
		for _, i := range r.Perm(len(want)) {
			longer, e := Add(ring, want[i])
			if e != api.OK || len(longer) != len(ring)+1 || !Ring(longer) {
				t.Fatalf("P12.6: Add to %d keys: %v", len(ring), e)
			}
			ring = longer
		}
		if !slices.Equal(ring, want) {
			t.Errorf("P12.1: %d keys are not in their places", len(want))
		}
	}
}

// found reads the promise literally.
func found(ring []api.Key, party, serial int) (api.Key, api.Errno) {
	for _, k := range ring {
		if k.Party == party && k.Serial == serial {
			return k, api.OK
		}
	}
	return api.Key{}, api.ErrName
}

func checkFind(t *testing.T, ring []api.Key, party, serial int) {
	t.Helper()
	given := spare(ring)
	k, e := Find(given, party, serial)
	want, wantE := found(ring, party, serial)
	if k != want || e != wantE {
		t.Errorf("P12.1: Find(%v, %d, %d) = %v, %v, not %v, %v", ring, party, serial, k, e, want, wantE)
	}
	if !isUnchanged(given, ring) {
		t.Errorf("P12.1: Find changes %v", ring)
	}
}

// edges are numbers of parties and serial numbers that there are, or are not.
var edges = []int{math.MinInt, -1, 0, 1, 2, 3, api.OfficeParty, api.OfficeParty + 1, mostParty - 1, mostParty, mostParty + 1, math.MaxInt}

func TestFind(t *testing.T) {
	for _, ring := range smallRings(pairs) {
		for _, party := range edges {
			for _, serial := range edges {
				checkFind(t, ring, party, serial)
			}
		}
	}
}

func TestFindInManyKeys(t *testing.T) {
	for _, ring := range [][]api.Key{fullRing(), randomRing(random(), mostKeys, 200, 5, 100), randomRing(random(), mostKeys, 5, 200, 100), randomRing(random(), mostKeys, 1, 400, 100)} {
		for _, k := range ring {
			for _, party := range []int{k.Party - 1, k.Party, k.Party + 1} {
				for _, serial := range []int{k.Serial - 1, k.Serial, k.Serial + 1} {
					checkFind(t, ring, party, serial)
				}
			}
		}
	}
}

func TestExamplesOfRings(t *testing.T) {
	a := api.Key{Party: 5, Serial: 1, Secret: "s", From: 0, To: 100}
	ring := []api.Key{a}
	if l, e := Add(ring, a); e != api.ErrTwice || len(l) != 0 {
		t.Errorf("P12.1: Add of a once more: %v, %v", l, e)
	}
	if l, e := Add(ring, api.Key{Party: 5, Serial: 2, Secret: "s", From: 7, To: 7}); e != api.ErrArg || len(l) != 0 {
		t.Errorf("P12.1: Add of (5, 2, s, 7 to 7): %v, %v", l, e)
	}
	for _, example := range []struct {
		party, day int
		want       api.Key
		e          api.Errno
	}{{5, 99, a, api.OK}, {5, 100, api.Key{}, api.ErrTime}, {6, 99, api.Key{}, api.ErrName}} {
		if k, e := Current(ring, example.party, example.day); k != example.want || e != example.e {
			t.Errorf("P12.2: Current(%d, %d) = %v, %v", example.party, example.day, k, e)
		}
	}
	want := []api.Key{{Party: 5, Serial: 1, Secret: "s", From: 0, To: 50}, {Party: 5, Serial: 2, Secret: "t", From: 50, To: 1048577}}
	if l, e := Rotate(ring, 5, "t", 50); e != api.OK || !slices.Equal(l, want) {
		t.Errorf("P12.3: Rotate(5, t, 50) = %v, %v", l, e)
	}
}
