// Package bits: bit vectors with rank and select: see ../../shared/doc/01-bits.md.
package bits

import (
	mathbits "math/bits"
	"sort"

	"lectern/api"
)

const (
	wordBits   = 64
	blockWords = 8 // words for which one rank is stored
	blockBits  = wordBits * blockWords
)

// words are bits, packed. Unused bits of the last word are 0.
type words struct {
	w []uint64
	n int
}

func pack(l []bool) words {
	p := words{w: make([]uint64, (len(l)+wordBits-1)/wordBits), n: len(l)}
	for i, b := range l {
		if b {
			p.w[i/wordBits] |= 1 << (i % wordBits)
		}
	}
	return p
}

func (p *words) bit(i int) bool {
	return p.w[i/wordBits]>>(i%wordBits)&1 == 1
}

// Vector is a bit vector. It keeps the number of ones ahead of each block of words.
type Vector struct {
	words
	ahead []int32
	ones  int
}

// New returns a vector of these bits.
func New(l ...bool) (*Vector, api.Errno) {
	if len(l) > api.MaxBits {
		return nil, api.ErrLimit
	}
	v := &Vector{words: pack(l)}
	for i, w := range v.w {
		if i%blockWords == 0 {
			v.ahead = append(v.ahead, int32(v.ones))
		}
		v.ones += mathbits.OnesCount64(w)
	}
	return v, api.OK
}

// Len is the number of bits.
func (v *Vector) Len() int { return v.n }

// Get returns bit i.
func (v *Vector) Get(i int) (bool, api.Errno) {
	if i < 0 || i >= v.n {
		return false, api.ErrNone
	}
	return v.bit(i), api.OK
}

// Rank returns the number of ones among the first i bits.
func (v *Vector) Rank(i int) (int, api.Errno) {
	if i < 0 || i > v.n {
		return 0, api.ErrNone
	}
	if i == v.n {
		return v.ones, api.OK
	}
	word := i / wordBits
	block := word / blockWords
	r := int(v.ahead[block])
	for _, w := range v.w[block*blockWords : word] {
		r += mathbits.OnesCount64(w)
	}
	return r + mathbits.OnesCount64(v.w[word]&(1<<(i%wordBits)-1)), api.OK
}

// Select returns the index of the one that is preceded by exactly k ones.
func (v *Vector) Select(k int) (int, api.Errno) {
	if k < 0 || k >= v.ones {
		return 0, api.ErrNone
	}
	return v.find(k, 0, func(block int) int { return int(v.ahead[block]) }), api.OK
}

// Select0 returns the index of the zero that is preceded by exactly k zeros.
func (v *Vector) Select0(k int) (int, api.Errno) {
	if k < 0 || k >= v.n-v.ones {
		return 0, api.ErrNone
	}
	return v.find(k, ^uint64(0), func(block int) int { return block*blockBits - int(v.ahead[block]) }), api.OK
}

// find returns the index of set bit k of the words, each XORed with flip; ahead tells how many of them stand ahead of a block. There is such a bit.
func (v *Vector) find(k int, flip uint64, ahead func(block int) int) int {
	block := sort.Search(len(v.ahead), func(b int) bool { return ahead(b) > k }) - 1
	k -= ahead(block)
	word := block * blockWords
	for {
		n := mathbits.OnesCount64(v.w[word] ^ flip)
		if k < n {
			return word*wordBits + nth(v.w[word]^flip, k)
		}
		k -= n
		word++
	}
}

// nth returns the index of the one of w that is preceded by k ones.
func nth(w uint64, k int) int {
	for range k {
		w &= w - 1
	}
	return mathbits.TrailingZeros64(w)
}
