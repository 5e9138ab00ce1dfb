package ssa

import (
	"slices"

	"postern/api"
)

// back: moves instead of Phis; false: it would pass limits.
func (g *graph) back() bool {
	f := g.flow()
	s := newSharer(g, f)
	s.sharePhis()
	s.renameAll()
	spare := g.head.Vars // a variable that is free
	room := api.MaxInstrs - g.bodies()
	for _, b := range f.order {
		for from, a := range slices.Clone(g.blocks[b].ahead) {
			l := inTurn(g.moves(b, from), spare)
			if room -= len(l); room < 0 {
				return false
			}
			g.between(a, b, f, l)
		}
		g.blocks[b].phis = nil
	}
	g.number()
	return g.fits()
}

// move of a value to a variable, from another one.
type move struct{ to, from int }

func (m move) instr() api.Instr {
	return api.Instr{Op: api.Move, Ds: []int{m.to}, As: []int{m.from}}
}

// moves that stand for the Phis of a block, coming from one of those ahead; they are done at once.
func (g *graph) moves(b, from int) []move {
	var l []move
	for _, in := range g.blocks[b].phis {
		if m := (move{in.Ds[0], in.As[from]}); m.to != m.from {
			l = append(l, m)
		}
	}
	return l
}

// inTurn: one by one what moves do at once; one may need a spare variable for that.
func inTurn(moves []move, spare int) []api.Instr {
	var l []api.Instr
	from, asked := map[int]int{}, map[int]int{} // of what is still to be moved
	for _, m := range moves {
		from[m.to] = m.from
		asked[m.from]++
	}
	do := func(to, of int) {
		l = append(l, move{to, of}.instr())
	}
	for _, m := range moves { // those first whose old values nothing asks any more
		for to := m.to; asked[to] == 0; {
			of, ok := from[to]
			if !ok {
				break
			}
			do(to, of)
			delete(from, to)
			asked[of]--
			to = of
		}
	}
	for _, m := range moves { // what is left goes round
		if _, ok := from[m.to]; !ok {
			continue
		}
		do(spare, m.to)
		to := m.to
		for from[to] != m.to {
			of := from[to]
			do(to, of)
			delete(from, to)
			to = of
		}
		do(to, spare)
		delete(from, to)
	}
	return l
}

// between two blocks: what is done only when a run comes from the one to the other.
func (g *graph) between(a, b int, f flow, l []api.Instr) {
	n := &g.blocks[a]
	switch {
	case len(l) == 0:
	case len(f.next[a]) == 1:
		n.body = slices.Concat(n.body[:len(n.body)-1], l, []api.Instr{jump(b)})
	case len(f.ahead[b]) == 1:
		g.blocks[b].body = slices.Concat(l, g.blocks[b].body)
	default:
		places := n.end().To
		for i := range places {
			if places[i] == b {
				places[i] = len(g.blocks)
			}
		}
		g.blocks = append(g.blocks, node{body: append(l, jump(b))})
	}
}
