package seal

import (
	"crypto/sha256"
	"math"
	"slices"
	"strings"
	"testing"

	"antiquary/api"
	"antiquary/hash"
	"antiquary/wire"
)

// lists are parts that are easily taken for each other.
func lists() [][]string {
	return [][]string{
		nil, {""}, {"", ""}, {"", "", ""}, {"x"}, {"y"}, {"x", ""}, {"", "x"}, {"x", "y"}, {"y", "x"}, {"xy"}, {"x", "y", ""},
		{"s"}, {"s", "s"}, {"s", "s", "s"}, {"s", "x"}, {"x", "s"}, {"s", "x", "s"}, {"ss"}, {"\x00"}, {"\x01x"}, {"\xff", "\xfe"},
		{strings.Repeat("x", 63)}, {strings.Repeat("x", 64)}, {strings.Repeat("x", 127)}, {strings.Repeat("x", 128)}, {strings.Repeat("long ", 2000), "x"},
		slices.Repeat([]string{"x"}, 100), slices.Repeat([]string{""}, 1000),
	}
}

// digest reads chapters 2 and 1 literally: the first 16 bytes of SHA-256 of the tag's byte and the encodings of the parts.
func digest(tag int, parts ...string) [16]byte {
	b := []byte{byte(tag)}
	for _, part := range parts {
		b = append(b, wire.Bytes(part)...)
	}
	sum := sha256.Sum256(b)
	return [16]byte(sum[:16])
}

var secrets = []string{"s", "t", "x", "ss", "\x00", strings.Repeat("s", mostSecret), "", strings.Repeat("s", mostSecret+1)}

func TestMake(t *testing.T) {
	for _, secret := range secrets {
		for _, tag := range []int{0, 1, 7, 8, 121, 255} {
			for _, parts := range lists() {
				k := api.Key{Party: 5, Serial: 1, Secret: secret, From: 3, To: 9}
				all := append(append([]string{secret}, parts...), secret)
				s := Make(k, tag, parts...)
				if s != digest(tag, all...) || s != api.Seal(hash.Of(tag, all...)) {
					t.Errorf("P12.4: Make with %q, %d, %q is %x", secret, tag, parts, s)
				}
				if other := Make(api.Key{Secret: secret}, tag, parts...); other != s {
					t.Errorf("P12.4: Make depends on more than the secret %q", secret)
				}
			}
		}
	}
}

func TestMakeOfAnyTag(t *testing.T) {
	for _, tag := range []int{math.MinInt, -1, 256, 1 << 20, math.MaxInt} {
		k := key(5, 1, 0, 9)
		if s := Make(k, tag, "x"); s != api.Seal(hash.Of(tag, k.Secret, "x", k.Secret)) {
			t.Errorf("P12.4: Make with the tag %d is %x", tag, s)
		}
	}
}

func TestSealsAreDifferent(t *testing.T) {
	type sealed struct {
		secret string
		tag    int
		parts  string
	}
	seen := map[api.Seal]sealed{}
	for _, secret := range secrets {
		for _, tag := range []int{7, 8} {
			for _, parts := range lists() {
				s := Make(api.Key{Secret: secret}, tag, parts...)
				this := sealed{secret, tag, string(wire.Strings(parts))}
				if that, is := seen[s]; is {
					t.Errorf("P12.4: %+v and %+v have the same seal", this, that)
				}
				seen[s] = this
			}
		}
	}
}

func TestPartsAreLeftAlone(t *testing.T) {
	room := []string{"a", "b", "c", "d", "e"}
	want := slices.Clone(room)
	ring := []api.Key{key(5, 1, 0, 9)}
	for n := range len(room) {
		s := Make(ring[0], 7, room[:n]...)
		if e := Check(ring, 5, 1, 7, room[:n], s, 3); e != api.OK {
			t.Errorf("P12.7: %d parts: %v", n, e)
		}
		if d := Blind("n", room[:n]...); !Opens(d, "n", room[:n]...) {
			t.Errorf("P12.5: %d parts are not opened", n)
		}
		if !slices.Equal(room, want) {
			t.Fatalf("P12.4: the list behind %d parts is changed: %q", n, room)
		}
	}
}

func TestExamplesOfSeals(t *testing.T) {
	a := api.Key{Party: 5, Serial: 1, Secret: "s", From: 0, To: 100}
	s := Make(a, 7, "x")
	for _, example := range []struct {
		part string
		day  int
		want api.Errno
	}{{"x", 99, api.OK}, {"y", 99, api.ErrSeal}, {"x", 100, api.ErrTime}} {
		if e := Check([]api.Key{a}, 5, 1, 7, []string{example.part}, s, example.day); e != example.want {
			t.Errorf("P12.4: Check for %q on day %d: %v, not %v", example.part, example.day, e, example.want)
		}
	}
	d := Blind("n", "x")
	if !Opens(d, "n", "x") || Opens(d, "m", "x") {
		t.Errorf("P12.5: Opens is %v, and %v with another nonce", Opens(d, "n", "x"), Opens(d, "m", "x"))
	}
}

// checked reads the promise literally.
func checked(ring []api.Key, party, serial, tag int, parts []string, s api.Seal, day int) api.Errno {
	k, e := found(ring, party, serial)
	if e != api.OK {
		return e
	}
	if day < k.From || day >= k.To {
		return api.ErrTime
	}
	if s != api.Seal(hash.Of(tag, append(append([]string{k.Secret}, parts...), k.Secret)...)) {
		return api.ErrSeal
	}
	return api.OK
}

func checkCheck(t *testing.T, ring []api.Key, party, serial, tag int, parts []string, s api.Seal, day int) {
	t.Helper()
	given := spare(ring)
	want := checked(ring, party, serial, tag, parts, s, day)
	if e := Check(given, party, serial, tag, parts, s, day); e != want {
		t.Errorf("P12.4: Check(%v, %d, %d, %d, %q, %x, %d) = %v, not %v", ring, party, serial, tag, parts, s, day, e, want)
	}
	if !isUnchanged(given, ring) {
		t.Errorf("P12.4: Check changes %v", ring)
	}
}

func TestCheck(t *testing.T) {
	parts := []string{"x", "y"}
	for _, ring := range ringsOfDays(3, 2) {
		for _, k := range append(slices.Clone(ring), key(2, 2, 0, 4)) {
			s := Make(k, 7, parts...)
			for party := range 4 {
				for serial := range 4 {
					for day := -1; day < 5; day++ {
						checkCheck(t, ring, party, serial, 7, parts, s, day)
					}
				}
			}
			checkCheck(t, ring, k.Party, k.Serial, 8, parts, s, k.From)
			checkCheck(t, ring, k.Party, k.Serial, 7, []string{"xy"}, s, k.From)
			checkCheck(t, ring, k.Party, k.Serial, 7, parts, api.Seal{}, k.To)
		}
	}
}

func TestCheckOfParts(t *testing.T) {
	a := api.Key{Party: 5, Serial: 1, Secret: "s", From: 0, To: 100}
	ring := []api.Key{a}
	for i, parts := range lists() {
		s := Make(a, 7, parts...)
		for j, others := range lists() {
			want := api.ErrSeal
			if i == j {
				want = api.OK
			}
			if e := Check(ring, 5, 1, 7, others, s, 50); e != want {
				t.Errorf("P12.7: the seal of %q for %q: %v, not %v", parts, others, e, want)
			}
		}
	}
}

func TestSealsWithEveryBitWrong(t *testing.T) {
	a := api.Key{Party: 5, Serial: 1, Secret: "s", From: 0, To: 100}
	s := Make(a, 7, "x")
	for i := range s {
		for bit := range 8 {
			wrong := s
			wrong[i] ^= 1 << bit
			if e := Check([]api.Key{a}, 5, 1, 7, []string{"x"}, wrong, 50); e != api.ErrSeal {
				t.Errorf("P12.7: with the bit %d of the byte %d wrong: %v", bit, i, e)
			}
		}
	}
}

func TestSealsOfManyKeys(t *testing.T) {
	r := random()
	for _, ring := range [][]api.Key{fullRing(), randomRing(r, mostKeys, 20, 40, 1000), {key(1, 1, 0, mostDay+1)}, {key(1, 1, mostDay, mostDay+1), key(mostParty, mostParty, 0, 1)}} {
		for i, k := range ring {
			s := Make(k, 9, "a", "b")
			for _, day := range []int{math.MinInt, -1, 0, k.From - 1, k.From, k.From + 1, k.To - 1, k.To, k.To + 1, mostDay, mostDay + 1, math.MaxInt, r.IntN(1000)} {
				want := api.ErrTime
				if k.From <= day && day < k.To {
					want = api.OK
				}
				if e := Check(ring, k.Party, k.Serial, 9, []string{"a", "b"}, s, day); e != want {
					t.Errorf("P12.7: %v on day %d: %v, not %v", k, day, e, want)
				}
			}
			other := ring[(i+1)%len(ring)]
			if e := Check(ring, other.Party, other.Serial, 9, []string{"a", "b"}, s, other.From); len(ring) > 1 && e != api.ErrSeal {
				t.Errorf("P12.7: what %v sealed as that of %v: %v", k, other, e)
			}
			checkCheck(t, ring, k.Party, k.Serial+1, 9, []string{"a", "b"}, s, k.From)
			checkCheck(t, ring, k.Party+1, k.Serial, 9, []string{"a", "b"}, s, k.From)
		}
	}
}

func TestNothingIsAcceptedAfterRevoke(t *testing.T) {
	for _, ring := range ringsOfDays(4, 2) {
		for _, k := range ring {
			for day := k.From + 1; day < 7; day++ {
				after, e := Revoke(ring, k.Party, k.Serial, day)
				if e != api.OK {
					t.Fatalf("P12.8: Revoke(%v, %d): %v", ring, day, e)
				}
				for _, by := range ring {
					s := Make(by, 7, "x")
					for d := range 9 {
						want := Check(ring, by.Party, by.Serial, 7, []string{"x"}, s, d)
						if by == k && d >= day {
							want = api.ErrTime
						}
						if e := Check(after, by.Party, by.Serial, 7, []string{"x"}, s, d); e != want {
							t.Errorf("P12.8: after Revoke(%v, %d, %d, %d), what %v sealed on day %d: %v, not %v", ring, k.Party, k.Serial, day, by, d, e, want)
						}
					}
				}
			}
		}
	}
}

func TestRevokeForEveryDay(t *testing.T) {
	k := key(5, 1, 1000, 500000)
	ring := []api.Key{k}
	s := Make(k, 7, "x")
	after, e := Revoke(ring, 5, 1, 2000)
	if e != api.OK {
		t.Fatalf("P12.8: %v", e)
	}
	for d := range mostDay + 1 {
		want := api.ErrTime
		if d >= 1000 && d < 2000 {
			want = api.OK
		}
		if e := Check(after, 5, 1, 7, []string{"x"}, s, d); e != want {
			t.Fatalf("P12.8: on day %d: %v, not %v", d, e, want)
		}
	}
}

func TestBlind(t *testing.T) {
	for _, nonce := range []string{"", "n", "m", "nx", "\x00", strings.Repeat("n", 16), strings.Repeat("n", 300)} {
		for _, parts := range lists() {
			all := append([]string{nonce}, parts...)
			if d := Blind(nonce, parts...); d != digest(121, all...) || d != hash.Of(121, all...) {
				t.Errorf("P12.5: Blind(%q, %q) = %x", nonce, parts, d)
			}
		}
	}
}

func TestOpens(t *testing.T) {
	type blinded struct {
		nonce string
		parts []string
	}
	var all []blinded
	for _, nonce := range []string{"", "n", "x", "s", "nx"} {
		for _, parts := range lists() {
			all = append(all, blinded{nonce, parts})
		}
	}
	for i, b := range all {
		d := Blind(b.nonce, b.parts...)
		for j, other := range all {
			if is := Opens(d, other.nonce, other.parts...); is != (i == j) {
				t.Errorf("P12.5: Opens of Blind(%q, %q) with %q and %q is %v", b.nonce, b.parts, other.nonce, other.parts, is)
			}
		}
	}
}

func TestOpensNoOtherDigest(t *testing.T) {
	d := Blind("n", "x")
	for i := range d {
		for bit := range 8 {
			wrong := d
			wrong[i] ^= 1 << bit
			if Opens(wrong, "n", "x") {
				t.Errorf("P12.5: %x is opened, with the bit %d of the byte %d wrong", wrong, bit, i)
			}
		}
	}
	if Opens(api.Digest{}, "n") || Opens(api.Digest{}, "") {
		t.Errorf("P12.5: the digest of zeros is opened")
	}
}

// anyKeys returns lists of keys that are no rings.
func anyKeys() [][]api.Key {
	high, low := key(math.MaxInt, math.MaxInt, math.MinInt, math.MaxInt), key(math.MinInt, math.MinInt, math.MaxInt, math.MinInt)
	return [][]api.Key{
		{high}, {low}, {high, low}, {low, high, low}, {{}, {}}, {key(5, 2, 0, 9), key(5, 1, 0, 9)}, {key(5, 1, 0, 9), key(5, 1, 0, 9)},
		{key(9, 1, 0, 9), key(5, 1, 0, 9), key(7, 1, 9, 0)}, slices.Repeat([]api.Key{key(5, 1, 0, 9)}, mostKeys+7), slices.Repeat([]api.Key{high, low}, 400),
	}
}

func TestWhatIsNoRingDoesNotPanic(t *testing.T) {
	numbers := []int{math.MinInt, -1, 0, 1, 2, 5, 9, mostParty, mostParty + 1, math.MaxInt - 1, math.MaxInt}
	for _, l := range anyKeys() {
		before := spare(l)
		for _, a := range numbers {
			for _, b := range numbers {
				Find(before, a, b)
				Current(before, a, b)
				Rotate(before, a, "new", b)
				Add(before, key(a, b, 0, 1))
				for _, c := range []int{math.MinInt, 0, 5, math.MaxInt} {
					Revoke(before, a, b, c)
					Check(before, a, b, c, []string{"x"}, api.Seal{}, c)
				}
			}
		}
		if !isUnchanged(before, l) {
			t.Errorf("P1: what is no ring is changed: %v", l)
		}
	}
}
