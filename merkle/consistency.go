package merkle

import "antiquary/api"

// Consistency returns the proof that the first elements were the whole list once.
func Consistency(leaves []api.Digest, m int) ([]api.Digest, api.Errno) {
	if m < 0 || m > len(leaves) {
		return nil, api.ErrArg
	}
	if m == 0 {
		return nil, api.OK
	}
	var path []api.Digest
	var prove func(part []api.Digest, m int, mark bool)
	prove = func(part []api.Digest, m int, mark bool) {
		if m == len(part) {
			if !mark { // with the mark, who checks has this root already
				path = append(path, Root(part))
			}
			return
		}
		first, second := halves(part)
		if m <= len(first) {
			prove(first, m, mark)
			path = append(path, Root(second))
		} else {
			prove(second, m-len(first), false)
			path = append(path, Root(first))
		}
	}
	prove(leaves, m, true)
	return path, api.OK
}

// CheckConsistency checks such a proof.
func CheckConsistency(m, n int, old, root api.Digest, path []api.Digest) bool {
	if m < 0 || m > n || n > api.MaxLeaves {
		return false
	}
	return goThrough(path, func(next func() api.Digest) bool {
		if m == 0 {
			return old == emptyRoot()
		}
		var roots func(m, n int, mark bool) (api.Digest, api.Digest)
		roots = func(m, n int, mark bool) (api.Digest, api.Digest) {
			if m == n {
				same := old
				if !mark {
					same = next()
				}
				return same, same
			}
			k := firstSize(n)
			if m <= k {
				before, after := roots(m, k, mark)
				return before, Node(after, next())
			}
			before, after := roots(m-k, n-k, false)
			first := next()
			return Node(first, before), Node(first, after)
		}
		before, after := roots(m, n, true)
		return before == old && after == root
	})
}
