package ssa

import (
	"slices"

	"postern/api"
	"postern/calc"
)

// needed: what sets variables that nothing asks, and does nothing else, goes.
func (g *graph) needed() {
	sets := map[int]api.Instr{}
	asked := map[int]struct{}{}
	var work []int
	ask := func(in api.Instr) {
		for _, a := range in.As {
			if _, ok := asked[a]; !ok {
				asked[a] = struct{}{}
				work = append(work, a)
			}
		}
	}
	g.each(func(in *api.Instr) {
		for _, d := range in.Ds {
			sets[d] = *in
		}
	})
	g.each(func(in *api.Instr) {
		if acts(*in, sets) {
			ask(*in)
		}
	})
	for len(work) > 0 {
		v := work[len(work)-1]
		work = work[:len(work)-1]
		ask(sets[v])
	}
	needless := func(in api.Instr) bool {
		if acts(in, sets) {
			return false
		}
		_, ok := asked[in.Ds[0]]
		return !ok
	}
	for b := range g.blocks {
		n := &g.blocks[b]
		n.phis = slices.DeleteFunc(n.phis, needless)
		n.body = slices.DeleteFunc(n.body, needless)
	}
}

// acts: does an instruction do more than to set a variable? It does, too, if the run may end by it.
func acts(in api.Instr, sets map[int]api.Instr) bool {
	switch in.Op {
	case api.Const, api.Move, api.Phi:
		return false
	case api.Math:
		by := sets[in.As[1]]
		return calc.Divides(in.S) && (by.Op != api.Const || by.N == 0)
	}
	return true
}
