package merkle

import (
	"slices"

	"antiquary/api"
)

// Many returns the proof that a list has its elements at several positions.
func Many(leaves []api.Digest, places []int) ([]api.Digest, api.Errno) {
	if !arePlaces(places, len(leaves)) {
		return nil, api.ErrArg
	}
	var path []api.Digest
	var prove func(part []api.Digest, start int, places []int)
	prove = func(part []api.Digest, start int, places []int) {
		if len(places) == 0 {
			path = append(path, Root(part))
			return
		}
		if len(part) == 1 {
			return
		}
		first, second := halves(part)
		middle := start + len(first)
		count := countBelow(places, middle)
		prove(first, start, places[:count:count])
		prove(second, middle, places[count:])
	}
	if len(leaves) > 0 {
		prove(leaves, 0, places)
	}
	return path, api.OK
}

// CheckMany checks such a proof.
func CheckMany(n int, places []int, found, path []api.Digest, root api.Digest) bool {
	if n < 0 || n > api.MaxLeaves || !arePlaces(places, n) || len(found) != len(places) {
		return false
	}
	return goThrough(path, func(next func() api.Digest) bool {
		if n == 0 {
			return root == emptyRoot()
		}
		var rootOf func(start, n int, places []int, found []api.Digest) api.Digest
		rootOf = func(start, n int, places []int, found []api.Digest) api.Digest {
			if len(places) == 0 {
				return next()
			}
			if n == 1 {
				return found[0]
			}
			k := firstSize(n)
			count := countBelow(places, start+k)
			first := rootOf(start, k, places[:count:count], found[:count:count])
			second := rootOf(start+k, n-k, places[count:], found[count:])
			return Node(first, second)
		}
		return rootOf(0, n, places, found) == root
	})
}

// arePlaces reports whether places are strictly ascending positions of a list of n elements.
func arePlaces(places []int, n int) bool {
	least := 0
	for _, place := range places {
		if place < least || place >= n {
			return false
		}
		least = place + 1
	}
	return true
}

// countBelow returns how many of some ascending places are below a limit.
func countBelow(places []int, limit int) int {
	count, _ := slices.BinarySearch(places, limit)
	return count
}
