package ssa

import (
	"math/bits"
	"slices"
)

const wordBits = 64

// set of variables, a bit for each.
type set []uint64

func newSet(vars int) set { return make(set, (vars+wordBits-1)/wordBits) }

func (s set) has(v int) bool { return s[v/wordBits]>>(v%wordBits)&1 != 0 }

func (s set) add(vars ...int) {
	for _, v := range vars {
		s[v/wordBits] |= 1 << (v % wordBits)
	}
}

func (s set) drop(vars ...int) {
	for _, v := range vars {
		s[v/wordBits] &^= 1 << (v % wordBits)
	}
}

// join all of another one.
func (s set) join(other set) {
	for i, w := range other {
		s[i] |= w
	}
}

// meets: is a variable in both?
func (s set) meets(other set) bool {
	for i, w := range other {
		if s[i]&w != 0 {
			return true
		}
	}
	return false
}

// all variables of it, in their order.
func (s set) all() []int {
	var l []int
	for i, w := range s {
		for ; w != 0; w &= w - 1 {
			l = append(l, i*wordBits+bits.TrailingZeros64(w))
		}
	}
	return l
}

// lives: of each block the variables that are set ahead of it, and may be asked in it or behind it.
func (g *graph) lives(f flow) []set {
	lives := make([]set, len(g.blocks))
	for b := range lives {
		lives[b] = newSet(g.head.Vars)
	}
	for changed := true; changed; {
		changed = false
		for _, b := range slices.Backward(f.order) {
			live := g.livesBehind(f, lives, b)
			g.backward(b, live, func([]int) {})
			if !slices.Equal(live, lives[b]) {
				lives[b], changed = live, true
			}
		}
	}
	return lives
}

// livesBehind a block: what Phis ask of it is asked at its end.
func (g *graph) livesBehind(f flow, lives []set, b int) set {
	live := newSet(g.head.Vars)
	for _, to := range f.next[b] {
		n := &g.blocks[to]
		live.join(lives[to])
		if len(n.phis) > 0 {
			from := n.from(b)
			for _, in := range n.phis {
				live.add(in.As[from])
			}
		}
	}
	return live
}

// backward through a block, from what lives behind it to what lives ahead of it. What is set at once is looked at while live is what lives behind that.
func (g *graph) backward(b int, live set, look func(ds []int)) {
	n := &g.blocks[b]
	for _, in := range slices.Backward(n.body) {
		look(in.Ds)
		live.drop(in.Ds...)
		live.add(in.As...)
	}
	var ds []int
	for _, in := range n.phis {
		ds = append(ds, in.Ds...)
	}
	look(ds)
	live.drop(ds...)
}
