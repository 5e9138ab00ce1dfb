package ssa

import (
	"slices"

	"postern/api"
	"postern/code"
	"postern/ir"
)

// phisOf a block: how many stand ahead of all others.
func phisOf(block []api.Instr) int {
	n := 0
	for n < len(block) && block[n].Op == api.Phi {
		n++
	}
	return n
}

// withoutPhis: the code, but for those ahead in blocks.
func withoutPhis(c api.Code) api.Code {
	blocks := make([][]api.Instr, len(c.Blocks))
	for b, block := range c.Blocks {
		blocks[b] = block[phisOf(block):]
	}
	c.Blocks = blocks
	return c
}

// spot: where something stands.
type spot struct{ block, at int }

// checker of code that may be when its Phis are left out.
type checker struct {
	code api.Code
	flow flow
	set  map[int]spot // where variables are set
}

func (k *checker) phis() api.Errno {
	wrong := func(v int) bool { return v < 0 || v >= k.code.Vars }
	for b, block := range k.code.Blocks {
		for _, in := range block[:phisOf(block)] {
			switch {
			case len(in.Ds) != 1 || len(in.As) != len(k.flow.ahead[b]) || len(in.To) != 0:
				return api.ErrCount
			case wrong(in.Ds[0]) || slices.ContainsFunc(in.As, wrong):
				return api.ErrRange
			case b == 0:
				return api.ErrForm
			}
		}
	}
	return api.OK
}

// once: is each variable set at most once?
func (k *checker) once() bool {
	for v := range k.code.Params {
		k.set[v] = spot{0, none}
	}
	for b, block := range k.code.Blocks {
		for at, in := range block {
			for _, d := range in.Ds {
				if _, ok := k.set[d]; ok {
					return false
				}
				k.set[d] = spot{b, at}
			}
		}
	}
	return true
}

// has: does a variable have its value ahead of that spot?
func (k *checker) has(v int, here spot) bool {
	s, ok := k.set[v]
	if !ok || s.block == here.block {
		return ok && s.at < here.at
	}
	return k.flow.canBeDone(s.block) && k.flow.isAbove(s.block, here.block)
}

// asks: may an instruction ask all that it asks?
func (k *checker) asks(in api.Instr, here spot) bool {
	for i, a := range in.As {
		from := here
		if in.Op == api.Phi {
			from.block = k.flow.ahead[here.block][i]
			from.at = len(k.code.Blocks[from.block])
		}
		if k.flow.canBeDone(from.block) && !k.has(a, from) {
			return false
		}
	}
	return true
}

func (k *checker) uses() bool {
	for _, b := range k.flow.order {
		for at, in := range k.code.Blocks[b] {
			if !k.asks(in, spot{b, at}) {
				return false
			}
		}
	}
	return true
}

func check(p api.Program, c api.Code) api.Errno {
	if errno := ir.CheckCode(p, withoutPhis(c)); errno != api.OK {
		return errno
	}
	k := checker{code: c, flow: flowOf(code.Leads(c.Blocks)), set: map[int]spot{}}
	if errno := k.phis(); errno != api.OK {
		return errno
	}
	switch {
	case len(k.flow.ahead[0]) > 0:
		return api.ErrForm
	case !k.once():
		return api.ErrTwice
	case !k.uses():
		return api.ErrUse
	}
	return api.OK
}
