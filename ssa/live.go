package ssa

import (
	"slices"

	"postern/bitset"
)

// lives: of each block the variables that are set ahead of it, and may be asked in it or behind it.
func (g *graph) lives(f flow) []bitset.Set {
	lives := make([]bitset.Set, len(g.blocks))
	for b := range lives {
		lives[b] = bitset.New(g.head.Vars)
	}
	for changed := true; changed; {
		changed = false
		for _, b := range slices.Backward(f.order) {
			live := g.livesBehind(f, lives, b)
			g.backward(b, live, func([]int) {})
			if !slices.Equal(live, lives[b]) {
				lives[b], changed = live, true
			}
		}
	}
	return lives
}

// livesBehind a block: what Phis ask of it is asked at its end.
func (g *graph) livesBehind(f flow, lives []bitset.Set, b int) bitset.Set {
	live := bitset.New(g.head.Vars)
	for _, to := range f.next[b] {
		n := &g.blocks[to]
		live.Join(lives[to])
		if len(n.phis) > 0 {
			from := n.from(b)
			for _, in := range n.phis {
				live.Add(in.As[from])
			}
		}
	}
	return live
}

// backward through a block, from what lives behind it to what lives ahead of it. What is set at once is looked at while live is what lives behind that.
func (g *graph) backward(b int, live bitset.Set, look func(ds []int)) {
	n := &g.blocks[b]
	for _, in := range slices.Backward(n.body) {
		look(in.Ds)
		live.Drop(in.Ds...)
		live.Add(in.As...)
	}
	var ds []int
	for _, in := range n.phis {
		ds = append(ds, in.Ds...)
	}
	look(ds)
	live.Drop(ds...)
}
