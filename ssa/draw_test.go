package ssa_test

import (
	"math"
	"strconv"

	"postern/api"
	"postern/ssa"
)

// drawnProgram: functions that may call each other.
func drawnProgram(d *die) api.Program {
	p := api.Program{Data: d.list(d.n(5), 300)}
	for i := range 1 + d.n(3) {
		c := api.Code{Name: "f" + strconv.Itoa(i), Params: d.n(4), Results: d.n(3)}
		if i == 0 {
			c.Params, c.Results = 0, 0
		}
		c.Vars = c.Params + 1 + d.n(6)
		p.Funcs = append(p.Funcs, c)
	}
	for i := range p.Funcs {
		c := &p.Funcs[i]
		c.Blocks = make([][]api.Instr, 1+d.n(9))
		for b := range c.Blocks {
			for range d.n(7) {
				c.Blocks[b] = append(c.Blocks[b], drawnInner(d, p.Funcs, *c))
			}
			c.Blocks[b] = append(c.Blocks[b], drawnEnd(d, *c))
		}
	}
	return p
}

// drawnInner: an instruction that does not end a block.
func drawnInner(d *die, fs []api.Code, c api.Code) api.Instr {
	v := func() int { return d.n(c.Vars) }
	switch d.n(20) {
	case 0, 1, 2:
		return set(v(), one(d, 0, 0, 1, 1, 2, 3, -1, 7, math.MinInt, math.MaxInt))
	case 3, 4, 5, 6:
		return move(v(), v())
	case 7, 8, 9, 10:
		return calc(v(), v(), one(d, "+", "-", "*", "/", "%", "==", "!=", "<", "<=", ">", ">="), v())
	case 11:
		return load(v(), v(), d.n(4)-1)
	case 12:
		return store(v(), d.n(4)-1, v())
	case 13:
		return alloc(v(), v())
	case 14:
		return one(d, showAs("bool", v()), showAs("text", v(), v()))
	case 15, 16, 17:
		return show(v())
	}
	f := one(d, fs...)
	if f.Results > c.Vars {
		return move(v(), v())
	}
	ds := []int{}
	for first := v(); len(ds) < f.Results; first++ {
		ds = append(ds, first%c.Vars)
	}
	return invoke(f.Name, ds, d.list(f.Params, c.Vars)...)
}

func drawnEnd(d *die, c api.Code) api.Instr {
	n := len(c.Blocks)
	switch d.n(7) {
	case 0, 1:
		return jump(d.n(n))
	case 2, 3:
		return choose(d.n(c.Vars), d.n(n), d.n(n))
	case 4:
		return pick(d.n(c.Vars), d.list(1+d.n(4), n)...)
	case 5:
		if d.n(4) == 0 {
			return fail(api.BadAt + d.n(4))
		}
	}
	return back(d.list(c.Results, c.Vars)...)
}

// stirred: code with more Phis, in which some instructions ask others than before; it still is in form.
func stirred(d *die, p api.Program, c api.Code) api.Code {
	c = copied(c)
	for range d.n(8) {
		b, ahead := d.n(len(c.Blocks)), ssa.Ahead(c)
		more := copied(c)
		more.Vars++
		more.Blocks[b] = append(block(phi(c.Vars, d.list(len(ahead[b]), more.Vars)...)), more.Blocks[b]...)
		if ssa.Check(p, more) == api.OK {
			c = more
		}
	}
	for range d.n(60) {
		in := one(d, one(d, c.Blocks...)...)
		if len(in.As) == 0 || c.Vars == 0 {
			continue
		}
		at := d.n(len(in.As))
		old := in.As[at]
		in.As[at] = one(d, d.n(c.Vars), c.Vars-1-d.n(min(4, c.Vars)))
		if ssa.Check(p, c) != api.OK {
			in.As[at] = old
		}
	}
	return c
}
