package alloc

import (
	"slices"

	"postern/api"
)

// use of a variable: how many instructions that have registers ask it and set it, and how many of those that have slots pass it on, or give it.
type use struct{ asked, set, passed, given int }

// kept: is its slot, beside a register, set with it? Else it is set where it is passed on.
func (u use) kept() bool { return u.set < u.passed }

// gain: how many loads and stores more there are with a slot alone than with a register beside it.
func (u use) gain() int { return u.asked + u.set - min(u.set, u.passed) - u.given }

// passes: does an operator have slots?
func passes(op int) bool { return op == api.Invoke || op == api.Back }

// usesOf the variables of code. A param is given, too, if it may be asked for its first value.
func usesOf(c api.Code, spans []span) []use {
	uses := make([]use, c.Vars)
	for _, block := range c.Blocks {
		for _, in := range block {
			count(uses, in)
		}
	}
	for v := range c.Params {
		if spans[v].from == start {
			uses[v].given++
		}
	}
	return uses
}

// count what an instruction uses.
func count(uses []use, in api.Instr) {
	passes := passes(in.Op)
	for _, a := range different(in.As) {
		if passes {
			uses[a].passed++
		} else {
			uses[a].asked++
		}
	}
	for _, d := range in.Ds {
		if passes {
			uses[d].given++
		} else {
			uses[d].set++
		}
	}
}

// different ones of some variables, in their order.
func different(vars []int) []int {
	return slices.Compact(slices.Sorted(slices.Values(vars)))
}
