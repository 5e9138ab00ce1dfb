package ssa

import (
	"postern/api"
	"postern/bitset"
)

// sharer finds variables that can be one: their values are never needed at the same time.
type sharer struct {
	*graph
	first map[int]int  // of a variable another one that it is one with; of the first of those there is none
	ones  []bitset.Set // of each first one all that are one with it
	apart []bitset.Set // of each first one those that a value is needed of when one of its is set
}

// newSharer: each variable is alone. Which values are needed when a variable is set is found from the ends of the blocks on.
func newSharer(g *graph, f flow) *sharer {
	s := &sharer{graph: g, first: map[int]int{}, ones: make([]bitset.Set, g.head.Vars), apart: make([]bitset.Set, g.head.Vars)}
	for v := range g.head.Vars {
		s.ones[v], s.apart[v] = bitset.New(g.head.Vars), bitset.New(g.head.Vars)
		s.ones[v].Add(v)
	}
	lives := g.lives(f)
	for _, b := range f.order {
		live := g.livesBehind(f, lives, b)
		sets := func(ds []int) {
			live.Add(ds...) // as all of them are set at once
			for _, d := range ds {
				s.apart[d].Join(live)
			}
		}
		g.backward(b, live, sets)
		if b == 0 {
			params := make([]int, g.head.Params)
			for v := range params {
				params[v] = v
			}
			sets(params)
		}
	}
	return s
}

func (s *sharer) firstOf(v int) int {
	first, ok := s.first[v]
	if !ok {
		return v
	}
	first = s.firstOf(first)
	s.first[v] = first // so that no way there gets long
	return first
}

// share: from now on two variables are one, if they can be.
func (s *sharer) share(a, b int) {
	a, b = s.firstOf(a), s.firstOf(b)
	if a > b {
		a, b = b, a
	}
	if a == b || s.apart[a].Meets(s.ones[b]) || s.apart[b].Meets(s.ones[a]) {
		return
	}
	s.first[b] = a
	s.ones[a].Join(s.ones[b])
	s.apart[a].Join(s.apart[b])
}

// sharePhis: each of them with what it may have, where that can be: then nothing has to be moved there.
func (s *sharer) sharePhis() {
	for _, n := range s.blocks {
		for _, in := range n.phis {
			for _, a := range in.As {
				s.share(in.Ds[0], a)
			}
		}
	}
}

// renameAll variables: those that are one get one name.
func (s *sharer) renameAll() {
	names := map[int]int{}
	for v := range s.head.Vars {
		names[v] = s.firstOf(v)
	}
	s.each(func(in *api.Instr) {
		rename(in.Ds, names)
		rename(in.As, names)
	})
}
