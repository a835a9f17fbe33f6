// Package wire encodes numbers, texts and lists (layer 1, shared/doc/01-wire.md).
package wire

import "antiquary/api"

const (
	more   = 128 // is added to each digit of an integer that another one follows
	digits = 10  // of the longest integer
)

// Int returns the encoding of an integer.
func Int(n int) []byte { return appendInt(nil, n) }

// GetInt decodes an integer at the beginning of a byte sequence.
func GetInt(b []byte) (int, int, api.Errno) {
	var z uint64
	used := 0
collect:
	for i, c := range b[:min(len(b), digits)] {
		z |= uint64(c%more) << (7 * i)
		switch {
		case c >= more:
			continue
		case i == digits-1 && c > 1: // more than 64 bits
			return 0, 0, api.ErrEncoding
		case i > 0 && c == 0: // fewer bytes would do
			return 0, 0, api.ErrEncoding
		default:
			used = i + 1
			break collect
		}
	}
	if used > 0 {
		return unfold(z), used, api.OK
	}
	if len(b) >= digits {
		return 0, 0, api.ErrEncoding
	}
	return 0, 0, api.ErrTruncated
}

// Bytes returns the encoding of a byte string.
func Bytes(s string) []byte { return appendBytes(nil, s) }

// GetBytes decodes a byte string at the beginning of a byte sequence.
func GetBytes(b []byte) (string, int, api.Errno) {
	size, used, e := getCount(b, 1)
	if e != api.OK {
		return "", 0, e
	}
	return string(b[used : used+size]), used + size, api.OK
}

// Ints returns the encoding of a list of integers.
func Ints(l []int) []byte { return list(l, appendInt) }

// GetInts decodes a list of integers at the beginning of a byte sequence.
func GetInts(b []byte) ([]int, int, api.Errno) { return getList(b, 1, GetInt) }

// Strings returns the encoding of a list of byte strings.
func Strings(l []string) []byte { return list(l, appendBytes) }

// GetStrings decodes a list of byte strings at the beginning of a byte sequence.
func GetStrings(b []byte) ([]string, int, api.Errno) { return getList(b, 1, GetBytes) }

// Digests returns the encoding of a list of digests.
func Digests(l []api.Digest) []byte { return list(l, appendDigest) }

// GetDigests decodes a list of digests at the beginning of a byte sequence.
func GetDigests(b []byte) ([]api.Digest, int, api.Errno) {
	return getList(b, api.DigestSize, getDigest)
}

// fold gives small numbers to integers near 0: 0, -1, 1, -2 become 0, 1, 2, 3.
func fold(n int) uint64 {
	z := uint64(n) << 1
	if n < 0 {
		return ^z // -2n - 1, which fits where -2n may not
	}
	return z
}

// unfold is the inverse of fold.
func unfold(z uint64) int {
	n := int(z >> 1)
	if z&1 == 1 {
		return ^n
	}
	return n
}

func appendInt(b []byte, n int) []byte {
	z := fold(n)
	for z >= more {
		b = append(b, byte(z%more)+more)
		z /= more
	}
	return append(b, byte(z))
}

func appendBytes(b []byte, s string) []byte {
	return append(appendInt(b, len(s)), s...)
}

func appendDigest(b []byte, d api.Digest) []byte { return append(b, d[:]...) }

// getDigest is called by getList alone, which has seen that there are enough bytes.
func getDigest(b []byte) (api.Digest, int, api.Errno) {
	var d api.Digest
	copy(d[:], b)
	return d, api.DigestSize, api.OK
}

// list encodes a list, whose elements are encoded by add.
func list[T any](l []T, add func([]byte, T) []byte) []byte {
	b := Int(len(l))
	for _, x := range l {
		b = add(b, x)
	}
	return b
}

// getCount decodes the number of things that follow, each of at least so many bytes.
func getCount(b []byte, least int) (int, int, api.Errno) {
	count, used, e := GetInt(b)
	switch {
	case e != api.OK:
		return 0, 0, e
	case count < 0:
		return 0, 0, api.ErrEncoding
	case count > (len(b)-used)/least: // divided, as least * count may not fit
		return 0, 0, api.ErrTruncated
	}
	return count, used, api.OK
}

// getList decodes a list, whose elements are decoded by get and have at least so many bytes each.
func getList[T any](b []byte, least int, get func([]byte) (T, int, api.Errno)) ([]T, int, api.Errno) {
	count, used, e := getCount(b, least)
	if e != api.OK {
		return nil, 0, e
	}
	l := make([]T, 0, count)
	for range count {
		x, n, e := get(b[used:])
		if e != api.OK {
			return nil, 0, e
		}
		l = append(l, x)
		used += n
	}
	return l, used, api.OK
}
