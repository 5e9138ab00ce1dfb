package ssa

import (
	"slices"
	"strconv"

	"postern/api"
)

// made: how a value is made; what is made alike is the same.
type made struct {
	op   int
	s    string
	a, b int
}

// finder of variables that are the same as others.
type finder struct {
	*graph
	flow flow
	is   map[int]int       // what a variable is the same as
	sets map[int]api.Instr // what sets it, if that is a Const or a Math
	held map[made]name     // which one was made so
}

// sames: of variables that are the same the one that is set first is asked alone, and no other one is set.
func (g *graph) sames() {
	f := &finder{graph: g, flow: g.flow(), is: map[int]int{}, sets: map[int]api.Instr{}, held: map[made]name{}}
	for _, b := range f.flow.tree {
		f.look(b)
	}
	g.each(func(in *api.Instr) { f.follow(in.As) })
}

// same: the variable that is asked instead of one.
func (f *finder) same(v int) int {
	for {
		first, ok := f.is[v]
		if !ok {
			return v
		}
		v = first
	}
}

func (f *finder) follow(vars []int) {
	for i, v := range vars {
		vars[i] = f.same(v)
	}
}

// look at a block; all above it were looked at.
func (f *finder) look(b int) {
	n := &f.blocks[b]
	n.phis = slices.DeleteFunc(n.phis, func(in api.Instr) bool {
		f.follow(in.As)
		return f.found(in, b)
	})
	n.body = slices.DeleteFunc(n.body, func(in api.Instr) bool {
		f.follow(in.As)
		return f.found(in, b)
	})
	if end := n.end(); end.Op == api.Choose {
		f.decide(end)
	}
}

// found: is what an instruction sets the same as another variable?
func (f *finder) found(in api.Instr, b int) bool {
	switch in.Op {
	case api.Const:
		return f.alike(in, made{op: in.Op, a: in.N}, b)
	case api.Move:
		return f.hands(in, in.As[0])
	case api.Math:
		if v, ok := f.keeps(in); ok {
			return f.hands(in, v)
		}
		return f.alike(in, madeBy(in), b)
	case api.Phi:
		if v, ok := only(in); ok {
			return f.hands(in, v)
		}
		return f.alike(in, made{op: in.Op, s: text(in.As), a: b}, b)
	}
	return false
}

func (f *finder) hands(in api.Instr, v int) bool {
	f.is[in.Ds[0]] = v
	return true
}

// alike: was the same made in a block above?
func (f *finder) alike(in api.Instr, as made, b int) bool {
	if first, ok := f.held[as]; ok && f.flow.isAbove(first.block, b) {
		return f.hands(in, first.variable)
	}
	f.held[as] = name{in.Ds[0], b}
	if in.Op != api.Phi {
		f.sets[in.Ds[0]] = in
	}
	return false
}

// madeBy an operator, with its sides in one order where that is the same.
func madeBy(in api.Instr) made {
	m := made{in.Op, in.S, in.As[0], in.As[1]}
	turned := m
	turned.a, turned.b = m.b, m.a
	switch in.S {
	case ">":
		turned.s = "<"
		return turned
	case ">=":
		turned.s = "<="
		return turned
	case "+", "*", "==", "!=":
		if m.a > m.b {
			return turned
		}
	}
	return m
}

// only: the one variable that a Phi may have, but for itself. Whatever the way to its block was, that one was set on it.
func only(in api.Instr) (int, bool) {
	return alone(slices.DeleteFunc(slices.Clone(in.As), func(a int) bool { return a == in.Ds[0] }))
}

// alone: the only number that stands in a list, however often.
func alone(l []int) (int, bool) {
	if len(l) == 0 || slices.ContainsFunc(l, func(n int) bool { return n != l[0] }) {
		return 0, false
	}
	return l[0], true
}

func text(vars []int) string {
	var s []byte
	for _, v := range vars {
		s = append(strconv.AppendInt(s, int64(v), 10), ' ')
	}
	return string(s)
}

func (f *finder) isNumber(v, n int) bool {
	in := f.sets[v]
	return in.Op == api.Const && in.N == n
}

// keeps: the side that an operator hands on as it is.
func (f *finder) keeps(in api.Instr) (int, bool) {
	a, b := in.As[0], in.As[1]
	switch in.S {
	case "+":
		if f.isNumber(a, 0) {
			return b, true
		}
		return a, f.isNumber(b, 0)
	case "-":
		return a, f.isNumber(b, 0)
	case "*":
		if f.isNumber(a, 1) {
			return b, true
		}
		return a, f.isNumber(b, 1)
	case "/":
		return a, f.isNumber(b, 1)
	}
	return 0, false
}

// decide a Choose by a variable itself, where it asks how that compares with 0.
func (f *finder) decide(in *api.Instr) {
	for {
		by := f.sets[in.As[0]]
		if by.Op != api.Math || by.S != "==" && by.S != "!=" {
			return
		}
		v, other := by.As[0], by.As[1]
		if f.isNumber(v, 0) {
			v, other = other, v
		}
		if !f.isNumber(other, 0) {
			return
		}
		in.As[0] = v
		if by.S == "==" {
			slices.Reverse(in.To)
		}
	}
}
