package hash

import (
	"crypto/sha256"
	"encoding/hex"
	"math"
	"strings"
	"testing"

	"antiquary/api"
	"antiquary/wire"
)

// input is the message of P2.5.
func input(tag int, parts []string) []byte {
	b := []byte{byte((tag%256 + 256) % 256)}
	for _, part := range parts {
		b = append(b, wire.Bytes(part)...)
	}
	return b
}

func digestOf(b []byte) api.Digest {
	sum := sha256.Sum256(b)
	return api.Digest(sum[:api.DigestSize])
}

// lists returns lists of parts of which many have the same bytes, one after the other.
func lists() [][]string {
	long := strings.Repeat("x", 64)
	return [][]string{
		nil,
		{""},
		{"", ""},
		{"", "", ""},
		{"a"},
		{"a", ""},
		{"", "a"},
		{"ab"},
		{"a", "b"},
		{"b", "a"},
		{"abc"},
		{"a", "bc"},
		{"ab", "c"},
		{"a", "b", "c"},
		{"\x00"},
		{"\x02a"},
		{"\x00\x00"},
		{"a\x02b"},
		{"é", "\xff"},
		{long},
		{long[:63]},
		{long[:63], "x"},
		{"x", long[:63]},
		{long, long},
		{long + long},
		{strings.Repeat("y", 10000), "z"},
	}
}

func TestOfExamples(t *testing.T) {
	d := Of(1)
	if got := hex.EncodeToString(d[:]); got != "4bf5122f344554c53bde2ebb8cd2b7e3" {
		t.Errorf("P2.5: Of(1) is %s", got)
	}
	if Of(257) != d || Of(-255) != d || Of(1<<40+1) != d {
		t.Error("P2.5: the tag counts modulo 256")
	}
	if Of(-1) != Of(255) || Of(-1) != digestOf([]byte{255}) || Of(-256) != Of(0) {
		t.Error("P2.5: negative tags")
	}
	if Of(math.MinInt) != Of(0) || Of(math.MaxInt) != Of(255) {
		t.Error("P2.5: the extreme tags")
	}
	if Of(1, []string{}...) != d || Of(1, "") == d {
		t.Error("P2.5: no part is not an empty one")
	}
}

func TestOfIsTheSumOfItsInput(t *testing.T) {
	for _, tag := range []int{0, 1, 2, 127, 128, 255, 256, 257, 363, -1, -128, -255, -256, -257, 1 << 40} {
		for _, l := range lists() {
			if d := Of(tag, l...); d != digestOf(input(tag, l)) {
				t.Errorf("P2.5: Of(%d, %q) is %x", tag, l, d)
			}
		}
	}
	parts := []string{"a", "", "c"}
	Of(3, parts...)
	if strings.Join(parts, "|") != "a||c" {
		t.Error("Of changes its parts to", parts)
	}
	r := random()
	for range 2000 {
		l := make([]string, r.IntN(6))
		for i := range l {
			l[i] = string(randomBytes(r, r.IntN(1+150>>r.IntN(8))))
		}
		tag := int(r.Uint64()) >> r.IntN(64)
		if d := Of(tag, l...); d != digestOf(input(tag, l)) {
			t.Fatalf("P2.5: Of(%d, %q) is %x", tag, l, d)
		}
	}
}

func TestOfIsDifferentForDifferentInputs(t *testing.T) {
	seen := map[api.Digest]int{}
	for tag := range 256 {
		for i, l := range lists() {
			d := Of(tag, l...)
			if other, ok := seen[d]; ok {
				t.Fatalf("P2.9: Of(%d, %q) is that of tag and list %d", tag, l, other)
			}
			seen[d] = 1000*tag + i
		}
	}
}
