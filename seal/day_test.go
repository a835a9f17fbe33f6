package seal

import (
	"math"
	"slices"
	"strings"
	"testing"

	"antiquary/api"
)

// current reads the promise literally: of the keys that count on the day, it takes the one whose serial number no other one's is greater than.
func current(ring []api.Key, party, day int) (api.Key, api.Errno) {
	known, best := false, api.Key{}
	for _, k := range ring {
		if k.Party != party {
			continue
		}
		known = true
		if k.From <= day && day < k.To && k.Serial > best.Serial {
			best = k
		}
	}
	switch {
	case !known:
		return api.Key{}, api.ErrName
	case best.Serial == 0:
		return api.Key{}, api.ErrTime
	}
	return best, api.OK
}

func checkCurrent(t *testing.T, ring []api.Key, party, day int) {
	t.Helper()
	given := spare(ring)
	k, e := Current(given, party, day)
	want, wantE := current(ring, party, day)
	if k != want || e != wantE {
		t.Errorf("P12.2: Current(%v, %d, %d) = %v, %v, not %v, %v", ring, party, day, k, e, want, wantE)
	}
	if !isUnchanged(given, ring) {
		t.Errorf("P12.2: Current changes %v", ring)
	}
}

// ringsOfDays returns rings with all intervals of the first days, for two or three keys of a party between those of others.
func ringsOfDays(days, keys int) [][]api.Key {
	rings := [][]api.Key{{key(1, 9, 1, 3)}}
	for serial := range keys {
		var longer [][]api.Key
		for _, ring := range rings {
			for to := range days + 1 {
				for from := range to {
					longer = append(longer, slices.Concat(ring, []api.Key{key(2, 1+2*serial, from, to)}))
				}
			}
		}
		rings = append(rings, longer...)
	}
	rings = append(rings, nil, []api.Key{key(2, 4, 0, 1)}, []api.Key{key(2, mostParty, 1, 3)}, []api.Key{key(2, mostParty-1, 1, 3)})
	for i := range rings {
		if i%2 == 0 {
			rings[i] = append(rings[i], key(3, 1, 2, 4))
		}
	}
	return rings
}

func TestCurrent(t *testing.T) {
	for _, ring := range ringsOfDays(4, 3) {
		for party := range 5 {
			for day := -1; day < 7; day++ {
				checkCurrent(t, ring, party, day)
			}
		}
	}
}

func TestCurrentAtTheLimits(t *testing.T) {
	ring := []api.Key{key(1, 1, 0, mostDay+1), key(1, mostParty, mostDay, mostDay+1), key(mostParty, 1, 0, 1), key(mostParty, mostParty-1, 5, 9), key(mostParty, mostParty, mostDay-1, mostDay)}
	for _, party := range edges {
		for _, day := range []int{math.MinInt, -1, 0, 1, 4, 5, 8, 9, mostDay - 2, mostDay - 1, mostDay, mostDay + 1, math.MaxInt} {
			checkCurrent(t, ring, party, day)
			checkCurrent(t, nil, party, day)
			checkCurrent(t, ring[2:], party, day)
			checkCurrent(t, ring[:2], party, day)
		}
	}
}

func TestCurrentOfManyKeys(t *testing.T) {
	r := random()
	for _, ring := range [][]api.Key{fullRing(), randomRing(r, mostKeys, 100, 5, 60), randomRing(r, mostKeys, 5, 100, 300), randomRing(r, mostKeys, 1, 1000, 300)} {
		for range 2000 {
			checkCurrent(t, ring, r.IntN(110), r.IntN(310))
		}
		for _, k := range ring {
			for _, day := range []int{k.From - 1, k.From, k.To - 1, k.To} {
				checkCurrent(t, ring, k.Party, day)
			}
		}
	}
}

// rotated reads the promise literally.
func rotated(ring []api.Key, party int, secret string, day int) ([]api.Key, api.Errno) {
	greatest := -1
	for i, k := range ring {
		if k.Party == party && (greatest < 0 || k.Serial > ring[greatest].Serial) {
			greatest = i
		}
	}
	if greatest < 0 {
		return nil, api.ErrName
	}
	next := api.Key{Party: party, Serial: ring[greatest].Serial + 1, Secret: secret, From: day, To: 1048577}
	if !isValid(next) {
		return nil, api.ErrArg
	}
	if !(day > ring[greatest].From) {
		return nil, api.ErrTime
	}
	if len(ring) == mostKeys {
		return nil, api.ErrLimit
	}
	want := slices.Clone(ring)
	if want[greatest].To > day {
		want[greatest].To = day
	}
	return added(want, next)
}

// checkRotate compares Rotate with its literal reading, and what Current finds after it on some days.
func checkRotate(t *testing.T, ring []api.Key, party int, secret string, day int, days []int) {
	t.Helper()
	given := spare(ring)
	got, e := Rotate(given, party, secret, day)
	want, wantE := rotated(ring, party, secret, day)
	if e != wantE || !slices.Equal(got, want) {
		t.Errorf("P12.3: Rotate(%v, %d, %q, %d) = %v, %v, not %v, %v", ring, party, secret, day, got, e, want, wantE)
	}
	if e == api.OK {
		checkAfterRotate(t, ring, got, party, secret, day, days)
	}
	spoil(got)
	if !isUnchanged(given, ring) {
		t.Errorf("P12.3: Rotate(%v, %d, %q, %d) shares memory with its argument, or changes it", ring, party, secret, day)
	}
}

// checkAfterRotate checks what Current finds of all parties before and after Rotate.
func checkAfterRotate(t *testing.T, before, after []api.Key, party int, secret string, day int, days []int) {
	t.Helper()
	if !isRing(after) {
		t.Errorf("P12.6: Rotate(%v, %d, %q, %d) is no ring: %v", before, party, secret, day, after)
	}
	for _, other := range []int{party - 1, party, party + 1} {
		for _, d := range days {
			was, wasE := Current(before, other, d)
			is, isE := Current(after, other, d)
			if other == party && d >= day {
				if isE != api.OK || is.Secret != secret || is.From != day {
					t.Errorf("P12.6: after Rotate(%v, %d, %q, %d) the key for day %d is %v, %v", before, party, secret, day, d, is, isE)
				}
				continue
			}
			was.To, is.To = 0, 0 // the key that is ended counts on these days as before
			if was != is || wasE != isE {
				t.Errorf("P12.6: Rotate(%v, %d, %q, %d) changes the key of %d for day %d from %v, %v to %v, %v", before, party, secret, day, other, d, was, wasE, is, isE)
			}
		}
	}
}

func TestRotate(t *testing.T) {
	days := []int{0, 1, 2, 3, 4, 5, 6, mostDay - 1, mostDay}
	for _, ring := range ringsOfDays(4, 3) {
		for party := range 4 {
			for day := -1; day < 7; day++ {
				checkRotate(t, ring, party, "new", day, days)
			}
		}
		for _, day := range []int{math.MinInt, mostDay - 1, mostDay, mostDay + 1, mostDay + 2, math.MaxInt} {
			checkRotate(t, ring, 2, "new", day, days)
		}
	}
}

func TestRotateForEveryDay(t *testing.T) {
	ring := []api.Key{key(4, 1, 0, 90), key(5, 1, 100, 300), key(5, 2, 50, 200000), key(5, 7, 60, 70000), key(6, 1, 3, 4)}
	for _, day := range []int{61, 400, 70000, 1000000, mostDay} {
		after, e := Rotate(ring, 5, "new", day)
		if e != api.OK {
			t.Fatalf("P12.3: Rotate on day %d: %v", day, e)
		}
		for d := range mostDay + 1 {
			was, wasE := Current(ring, 5, d)
			is, isE := Current(after, 5, d)
			if d >= day && (isE != api.OK || is.Secret != "new") || d < day && (isE != wasE || is.Serial != was.Serial) {
				t.Fatalf("P12.6: after Rotate on day %d, the key of day %d is %v, %v", day, d, is, isE)
			}
		}
	}
}

func TestRotateErrors(t *testing.T) {
	last := []api.Key{key(5, mostParty, 10, 20)}
	next := []api.Key{key(5, mostParty-1, 10, 20)}
	for _, ring := range [][]api.Key{last, next, nil, {key(5, 3, 10, 20)}, {key(mostParty, 1, 10, 20)}} {
		for _, party := range edges {
			for _, secret := range []string{"", "x", strings.Repeat("x", mostSecret), strings.Repeat("x", mostSecret+1)} {
				for _, day := range []int{-1, 0, 9, 10, 11, 20, mostDay, mostDay + 1} {
					checkRotate(t, ring, party, secret, day, []int{9, 10, 11, 19, 20})
					checkRotate(t, ring, 5, secret, day, []int{9, 10, 11, 19, 20})
				}
			}
		}
	}
}

func TestRotateInManyKeys(t *testing.T) {
	full := fullRing()
	for i, k := range full {
		for _, day := range []int{-1, k.From, k.From + 1, k.To, k.To + 1} {
			checkRotate(t, full, k.Party, "new", day, nil) // api.ErrArg, api.ErrTime or api.ErrLimit
		}
		checkRotate(t, full, k.Party+1, "new", 900, nil) // api.ErrName
		less := slices.Delete(slices.Clone(full), i, i+1)
		near := []api.Key{k}
		if i%25 == 0 {
			near = append(near, full[0], full[mostKeys-1], full[mostKeys/2])
		}
		for _, k := range near {
			for _, day := range []int{k.From + 1, k.To, 900} {
				checkRotate(t, less, k.Party, "new", day, []int{0, day - 1, day, mostDay})
			}
		}
	}
}

// revoked reads the promise literally.
func revoked(ring []api.Key, party, serial, day int) ([]api.Key, api.Errno) {
	for i, k := range ring {
		if k.Party != party || k.Serial != serial {
			continue
		}
		if !(day > k.From) {
			return nil, api.ErrTime
		}
		want := slices.Clone(ring)
		if k.To > day {
			want[i].To = day
		}
		return want, api.OK
	}
	return nil, api.ErrName
}

// checkRevoke compares Revoke with its literal reading.
func checkRevoke(t *testing.T, ring []api.Key, party, serial, day int) {
	t.Helper()
	given := spare(ring)
	got, e := Revoke(given, party, serial, day)
	want, wantE := revoked(ring, party, serial, day)
	if e != wantE || !slices.Equal(got, want) {
		t.Errorf("P12.3: Revoke(%v, %d, %d, %d) = %v, %v, not %v, %v", ring, party, serial, day, got, e, want, wantE)
	}
	if e == api.OK && !isRing(got) {
		t.Errorf("P12.6: Revoke(%v, %d, %d, %d) is no ring: %v", ring, party, serial, day, got)
	}
	spoil(got)
	if !isUnchanged(given, ring) {
		t.Errorf("P12.3: Revoke(%v, %d, %d, %d) shares memory with its argument, or changes it", ring, party, serial, day)
	}
}

func TestRevoke(t *testing.T) {
	for _, ring := range ringsOfDays(4, 3) {
		for party := range 4 {
			for serial := range 7 {
				for day := -1; day < 7; day++ {
					checkRevoke(t, ring, party, serial, day)
				}
			}
		}
	}
}

func TestRevokeAtTheLimits(t *testing.T) {
	ring := []api.Key{key(1, 1, 0, mostDay+1), key(1, mostParty, mostDay, mostDay+1), key(mostParty, 1, 0, 1), key(mostParty, mostParty, mostDay-1, mostDay)}
	for _, party := range edges {
		for _, serial := range edges {
			for _, day := range []int{math.MinInt, -1, 0, 1, 2, mostDay - 1, mostDay, mostDay + 1, mostDay + 2, math.MaxInt} {
				checkRevoke(t, ring, party, serial, day)
				checkRevoke(t, nil, party, serial, day)
			}
		}
	}
}

func TestRevokeInManyKeys(t *testing.T) {
	for _, ring := range [][]api.Key{fullRing(), randomRing(random(), mostKeys, 20, 40, 1000)} {
		for _, k := range ring {
			for _, day := range []int{k.From - 1, k.From, k.From + 1, k.To - 1, k.To, k.To + 1} {
				checkRevoke(t, ring, k.Party, k.Serial, day)
			}
			checkRevoke(t, ring, k.Party, k.Serial+1, k.To)
			checkRevoke(t, ring, k.Party+1, k.Serial, k.To)
		}
	}
}

func TestChangesOneAfterTheOther(t *testing.T) {
	r := random()
	for range 40 {
		var ring []api.Key
		for range 300 {
			party, day := 1+r.IntN(6), r.IntN(100)
			var next []api.Key
			var e api.Errno
			switch r.IntN(4) {
			case 0:
				k := randomKey(r, 6, 12, 100)
				checkAdd(t, ring, k)
				next, e = Add(ring, k)
			case 1:
				serial := 1 + r.IntN(12)
				checkRevoke(t, ring, party, serial, day)
				next, e = Revoke(ring, party, serial, day)
			default:
				checkRotate(t, ring, party, "new", day, []int{day - 1, day, r.IntN(100)})
				next, e = Rotate(ring, party, "new", day)
			}
			if e == api.OK {
				ring = next
			}
			if !Ring(ring) {
				t.Fatalf("P12.6: no ring: %v", ring)
			}
		}
	}
}
