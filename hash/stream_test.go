package hash

import (
	"bytes"
	"crypto/sha256"
	"encoding/hex"
	"slices"
	"strings"
	"testing"
)

func TestSumExamples(t *testing.T) {
	for text, want := range map[string]string{
		"":    "e3b0c44298fc1c149afbf4c8996fb92427ae41e4649b934ca495991b7852b855",
		"abc": "ba7816bf8f01cfea414140de5dae2223b00361a396177a9cb410ff61f20015ad",
		"abcdbcdecdefdefgefghfghighijhijkijkljklmklmnlmnomnopnopq": "248d6a61d20638b8e5c026930c3e6039a33ce45964ff2167f6ecedd419db06c1",
		strings.Repeat("a", 1000000):                               "cdc76e5c9914fb9281a1c7e284d73e67f1809a48a497200e046d39ccc7112cd0",
	} {
		sum := Sum([]byte(text))
		if got := hex.EncodeToString(sum[:]); got != want {
			t.Errorf("P2.4: the hash of %d bytes is %s, want %s", len(text), got, want)
		}
	}
	if Sum(nil) != Sum([]byte{}) || Begin().Sum() != Sum(nil) || Begin().Add("").Sum() != Sum(nil) {
		t.Error("P2.4: the empty message")
	}
}

func TestSumIsSha256(t *testing.T) {
	check := func(b []byte) {
		before := slices.Clone(b)
		sum := Sum(b)
		if sum != sha256.Sum256(before) {
			t.Fatalf("P2.4: the hash of %d bytes %v is %x", len(b), before, sum)
		}
		if !bytes.Equal(b, before) {
			t.Fatalf("Sum changes %v to %v", before, b)
		}
		if Begin().Add(string(b)).Sum() != sum {
			t.Fatalf("P2.4: the stream of %d bytes has another hash", len(b))
		}
	}
	r := random()
	for n := range 400 { // with all lengths modulo 64, of which 55, 56, 63 and 64 are borders
		check(make([]byte, n))
		check(bytes.Repeat([]byte{255}, n))
		check(bytes.Repeat([]byte{128}, n))
		for range 10 {
			check(randomBytes(r, n))
		}
	}
	check(randomBytes(r, 1<<13-1)) // lengths in bits of two, three and four bytes
	check(randomBytes(r, 1<<13))
	check(randomBytes(r, 1<<16))
	check(randomBytes(r, 1<<21+55))
}

// The length of this message in bits does not fit into 32 bits.
func TestSumOfALongMessage(t *testing.T) {
	piece := randomBytes(random(), 1<<20)
	text := string(piece)
	s := Begin().Add("abc")
	want := sha256.New()
	want.Write([]byte("abc"))
	for range 1 << 9 {
		s = s.Add(text)
		want.Write(piece)
	}
	if sum := s.Sum(); !bytes.Equal(sum[:], want.Sum(nil)) {
		t.Errorf("P2.4: the hash of 2^29 + 3 bytes is %x", sum)
	}
}

func TestStreamPieces(t *testing.T) {
	r := random()
	for range 2000 {
		b := randomBytes(r, r.IntN(400))
		s := Begin()
		for at := 0; at < len(b); {
			n := min(r.IntN(1+200>>r.IntN(8)), len(b)-at)
			s = s.Add(string(b[at : at+n]))
			at += n
			if s.Sum() != sha256.Sum256(b[:at]) {
				t.Fatalf("P2.9: the hash of %v in pieces is %x", b[:at], s.Sum())
			}
		}
	}
	text := string(randomBytes(r, 200))
	for at := range len(text) {
		for more := range len(text) - at {
			sum := Begin().Add(text[:at]).Add(text[at : at+more]).Add(text[at+more:]).Sum()
			if sum != sha256.Sum256([]byte(text)) {
				t.Fatalf("P2.9: the hash of three pieces of %d, %d and more bytes is %x", at, more, sum)
			}
		}
	}
}

func TestStreamIsContinuedTwice(t *testing.T) {
	for _, n := range []int{0, 1, 54, 55, 56, 63, 64, 65, 119, 120, 128} {
		text := strings.Repeat("s", n)
		s := Begin().Add(text)
		want := sha256.Sum256([]byte(text))
		for _, after := range []string{"", "a", "bc", strings.Repeat("d", 64), strings.Repeat("e", 200)} {
			longer := s.Add(after)
			if longer.Sum() != sha256.Sum256([]byte(text+after)) {
				t.Errorf("P2.4: %d bytes, continued by %d", n, len(after))
			}
			if s.Sum() != want {
				t.Errorf("P2.4: %d bytes are changed by what continues them", n)
			}
		}
		first := s.Add("first")
		second := s.Add("second!")
		if first.Sum() != sha256.Sum256([]byte(text+"first")) || second.Sum() != sha256.Sum256([]byte(text+"second!")) {
			t.Errorf("P2.4: %d bytes, continued in two ways", n)
		}
	}
}
