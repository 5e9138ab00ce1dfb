package ssa

import "postern/api"

// sharer finds variables that can be one: their values are never needed at the same time.
type sharer struct {
	*graph
	first map[int]int // of a variable another one that it is one with; of the first of those there is none
	ones  []set       // of each first one all that are one with it
	apart []set       // of each first one those that a value is needed of when one of its is set
}

// newSharer: each variable is alone. Which values are needed when a variable is set is found from the ends of the blocks on.
func newSharer(g *graph, f flow) *sharer {
	s := &sharer{graph: g, first: map[int]int{}, ones: make([]set, g.head.Vars), apart: make([]set, g.head.Vars)}
	for v := range g.head.Vars {
		s.ones[v], s.apart[v] = newSet(g.head.Vars), newSet(g.head.Vars)
		s.ones[v].add(v)
	}
	lives := g.lives(f)
	for _, b := range f.order {
		live := g.livesBehind(f, lives, b)
		sets := func(ds []int) {
			live.add(ds...) // as all of them are set at once
			for _, d := range ds {
				s.apart[d].join(live)
			}
		}
		g.backward(b, live, sets)
		if b == 0 {
			params := make([]int, g.head.Params)
			for v := range params {
				params[v] = v
			}
			sets(params)
		}
	}
	return s
}

func (s *sharer) firstOf(v int) int {
	first, ok := s.first[v]
	if !ok {
		return v
	}
	first = s.firstOf(first)
	s.first[v] = first // so that no way there gets long
	return first
}

// share: from now on two variables are one, if they can be.
func (s *sharer) share(a, b int) {
	a, b = s.firstOf(a), s.firstOf(b)
	if a > b {
		a, b = b, a
	}
	if a == b || s.apart[a].meets(s.ones[b]) || s.apart[b].meets(s.ones[a]) {
		return
	}
	s.first[b] = a
	s.ones[a].join(s.ones[b])
	s.apart[a].join(s.apart[b])
}

// sharePhis: each of them with what it may have, where that can be: then nothing has to be moved there.
func (s *sharer) sharePhis() {
	for _, n := range s.blocks {
		for _, in := range n.phis {
			for _, a := range in.As {
				s.share(in.Ds[0], a)
			}
		}
	}
}

// renameAll variables: those that are one get one name.
func (s *sharer) renameAll() {
	names := map[int]int{}
	for v := range s.head.Vars {
		names[v] = s.firstOf(v)
	}
	s.each(func(in *api.Instr) {
		rename(in.Ds, names)
		rename(in.As, names)
	})
}
