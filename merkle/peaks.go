package merkle

import (
	"math/bits"
	"slices"

	"antiquary/api"
)

// Append returns the peaks of a list with one more element.
func Append(p api.Peaks, leaf api.Digest) (api.Peaks, api.Errno) {
	if !wellFormed(p) {
		return api.Peaks{}, api.ErrForm
	}
	if p.Size == api.MaxLeaves {
		return api.Peaks{}, api.ErrLimit
	}
	kept, last := p.Tops, leaf
	for full := p.Size; full&1 == 1; full >>= 1 { // as in a sum with 1, each digit 1 at the end is carried
		end := len(kept) - 1
		last = Node(kept[end], last)
		kept = kept[:end]
	}
	return api.Peaks{Size: p.Size + 1, Tops: append(slices.Clone(kept), last)}, api.OK
}

// Top returns the root of a list.
func Top(p api.Peaks) (api.Digest, api.Errno) {
	if !wellFormed(p) {
		return api.Digest{}, api.ErrForm
	}
	if p.Size == 0 {
		return emptyRoot(), api.OK
	}
	end := len(p.Tops) - 1
	root := p.Tops[end]
	for i := end - 1; i >= 0; i-- {
		root = Node(p.Tops[i], root)
	}
	return root, api.OK
}

func wellFormed(p api.Peaks) bool {
	return p.Size >= 0 && p.Size <= api.MaxLeaves && len(p.Tops) == bits.OnesCount(uint(p.Size))
}
