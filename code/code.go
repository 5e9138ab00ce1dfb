// Package code: what holds for the blocks of all code that may be; ssa and alloc both ask it.
package code

import (
	"slices"

	"postern/api"
)

// Copies of instructions in new memory, without what their operators do not ask for.
func Copies(block []api.Instr) []api.Instr {
	l := make([]api.Instr, len(block))
	for i, in := range block {
		l[i] = Copy(in)
	}
	return l
}

// Copy of an instruction.
func Copy(in api.Instr) api.Instr {
	c := api.Instr{Op: in.Op, Ds: slices.Clone(in.Ds), As: slices.Clone(in.As), To: slices.Clone(in.To)}
	switch in.Op {
	case api.Const, api.Load, api.Store, api.Fail:
		c.N = in.N
	case api.Math, api.Invoke, api.Show:
		c.S = in.S
	}
	return c
}

// Leads of blocks: the places that stand in their last instructions.
func Leads(blocks [][]api.Instr) [][]int {
	leads := make([][]int, len(blocks))
	for b, block := range blocks {
		if len(block) > 0 {
			leads[b] = block[len(block)-1].To
		}
	}
	return leads
}

// Ahead of blocks that lead to such places: those that lead to each, in their order, each once. A place that is none does not count.
func Ahead(leads [][]int) [][]int {
	ahead := make([][]int, len(leads))
	for b, places := range leads {
		for _, to := range places {
			if to < 0 || to >= len(leads) {
				continue
			}
			if l := ahead[to]; len(l) == 0 || l[len(l)-1] != b {
				ahead[to] = append(l, b)
			}
		}
	}
	return ahead
}
