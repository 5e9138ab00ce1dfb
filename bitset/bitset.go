// Package bitset: sets of small numbers, as of variables; ssa and alloc both ask it.
package bitset

import "math/bits"

const wordBits = 64

// Set of numbers from 0 on, a bit for each.
type Set []uint64

// New set that can have the numbers below one.
func New(below int) Set { return make(Set, (below+wordBits-1)/wordBits) }

// Has it a number?
func (s Set) Has(n int) bool { return s[n/wordBits]>>(n%wordBits)&1 != 0 }

// Add numbers.
func (s Set) Add(l ...int) {
	for _, n := range l {
		s[n/wordBits] |= 1 << (n % wordBits)
	}
}

// Drop numbers.
func (s Set) Drop(l ...int) {
	for _, n := range l {
		s[n/wordBits] &^= 1 << (n % wordBits)
	}
}

// Join all of another one, that can have no more.
func (s Set) Join(other Set) {
	for i, w := range other {
		s[i] |= w
	}
}

// JoinBut: join all of another one, but for those of a third one; was any of them new?
func (s Set) JoinBut(other, but Set) bool {
	grown := false
	for i, w := range other {
		more := w &^ but[i] &^ s[i]
		s[i] |= more
		grown = grown || more != 0
	}
	return grown
}

// Meets: is a number in both?
func (s Set) Meets(other Set) bool {
	for i, w := range other {
		if s[i]&w != 0 {
			return true
		}
	}
	return false
}

// All numbers of it, in their order.
func (s Set) All() []int {
	var l []int
	for i, w := range s {
		for ; w != 0; w &= w - 1 {
			l = append(l, i*wordBits+bits.TrailingZeros64(w))
		}
	}
	return l
}
