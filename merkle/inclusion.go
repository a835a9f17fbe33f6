package merkle

import "antiquary/api"

// Inclusion returns the proof that a list has its element at a position.
func Inclusion(leaves []api.Digest, i int) ([]api.Digest, api.Errno) {
	if i < 0 || i >= len(leaves) {
		return nil, api.ErrArg
	}
	var path []api.Digest
	var prove func(part []api.Digest, i int)
	prove = func(part []api.Digest, i int) {
		if len(part) == 1 {
			return
		}
		first, second := halves(part)
		if i < len(first) {
			prove(first, i)
			path = append(path, Root(second))
		} else {
			prove(second, i-len(first))
			path = append(path, Root(first))
		}
	}
	prove(leaves, i)
	return path, api.OK
}

// CheckInclusion checks such a proof.
func CheckInclusion(leaf api.Digest, i, n int, path []api.Digest, root api.Digest) bool {
	if i < 0 || i >= n || n > api.MaxLeaves {
		return false
	}
	return goThrough(path, func(next func() api.Digest) bool {
		var rootOf func(i, n int) api.Digest
		rootOf = func(i, n int) api.Digest {
			if n == 1 {
				return leaf
			}
			k := firstSize(n)
			if i < k {
				first := rootOf(i, k)
				return Node(first, next())
			}
			second := rootOf(i-k, n-k)
			return Node(next(), second)
		}
		return rootOf(i, n) == root
	})
}
