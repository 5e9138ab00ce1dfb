package comp_test

import (
	"math"

	"postern/api"
)

// heads of drawn functions: the first one has no params and results, some of the others as many as there may be.
func heads(d *die) []api.Code {
	fs := []api.Code{{Name: "f0"}}
	for i := range d.n(4) {
		fs = append(fs, function("f"+itoa(i+1), one(d, 0, 1, 2, 4, api.MaxWords), one(d, 0, 1, 2, 4, api.MaxWords), 0))
	}
	for i := range fs {
		fs[i].Vars = fs[i].Params + one(d, 1, 2, 4, 8, 16, 24)
	}
	return fs
}

// wild: a program whose functions may call each other, and lead anywhere.
func wild(d *die) api.Program {
	p := api.Program{Data: d.list(d.n(5), 300), Funcs: heads(d)}
	for i := range p.Funcs {
		c := &p.Funcs[i]
		c.Blocks = make([][]api.Instr, 1+d.n(9))
		for b := range c.Blocks {
			for range d.n(12) {
				c.Blocks[b] = append(c.Blocks[b], wildInner(d, p.Funcs, *c))
			}
			c.Blocks[b] = append(c.Blocks[b], wildEnd(d, *c))
		}
	}
	return p
}

// wildInner: an instruction that does not end a block.
func wildInner(d *die, fs []api.Code, c api.Code) api.Instr {
	v := func() int { return d.n(c.Vars) }
	switch d.n(12) {
	case 0:
		return load(v(), v(), d.n(4)-1)
	case 1:
		return store(v(), d.n(4)-1, v())
	case 2:
		return room(v(), v())
	case 3:
		return one(d, showAs("bool", v()), showAs("text", v(), v()))
	case 4:
		return calc(v(), v(), one(d, "/", "%", "!=", "<=", ">", ">="), v())
	}
	return calmInner(d, fs, c)
}

func wildEnd(d *die, c api.Code) api.Instr {
	n := len(c.Blocks)
	switch d.n(7) {
	case 0, 1:
		return jump(d.n(n))
	case 2, 3:
		return choose(d.n(c.Vars), d.n(n), d.n(n))
	case 4:
		return pick(d.n(c.Vars), d.list(1+d.n(4), n)...)
	case 5:
		if d.n(4) == 0 {
			return fail(api.BadAt + d.n(4))
		}
	}
	return back(d.list(c.Results, c.Vars)...)
}

// calm: a program in which nothing goes wrong, and each function calls those behind it alone: what is shown hangs on many values.
func calm(d *die) api.Program {
	p := program(heads(d)...)
	for i := range p.Funcs {
		c := &p.Funcs[i]
		c.Blocks = make([][]api.Instr, 1+d.n(6))
		for v := c.Params; v < c.Vars; v++ {
			c.Blocks[0] = append(c.Blocks[0], set(v, d.n(1000)))
		}
		for b := range c.Blocks {
			for range d.n(15) {
				c.Blocks[b] = append(c.Blocks[b], calmInner(d, p.Funcs[i+1:], *c))
			}
			c.Blocks[b] = append(c.Blocks[b], calmEnd(d, *c, b))
		}
	}
	return p
}

func calmInner(d *die, others []api.Code, c api.Code) api.Instr {
	v := func() int { return d.n(c.Vars) }
	if d.n(6) == 0 && len(others) > 0 {
		if f := one(d, others...); f.Results <= c.Vars {
			return invoke(f.Name, d.different(f.Results, c.Vars), d.list(f.Params, c.Vars)...)
		}
	}
	switch d.n(6) {
	case 0, 1:
		return show(v())
	case 2:
		return move(v(), v())
	case 3:
		return set(v(), one(d, 0, 1, 2, 7, -1, math.MinInt, math.MaxInt))
	}
	return calc(v(), v(), one(d, "+", "-", "*", "<", "=="), v())
}

// calmEnd of a block: the last one goes back, the others mostly lead on.
func calmEnd(d *die, c api.Code, b int) api.Instr {
	last := len(c.Blocks) - 1
	if b == last {
		return back(d.list(c.Results, c.Vars)...)
	}
	on := func() int { return b + 1 + d.n(last-b) }
	return one(d, jump(on()), choose(d.n(c.Vars), on(), on()), choose(d.n(c.Vars), on(), d.n(last+1)), pick(d.n(c.Vars), on(), on(), on()))
}

// spoil one thing of a program; it may still be one that may be.
func spoil(d *die, p *api.Program) {
	number := func() int { return one(d, math.MinInt, -1, 0, 1, 2, 3, 5, 7, 9, 16, 17, 3000, 3001, math.MaxInt) }
	c := &p.Funcs[d.n(len(p.Funcs))]
	b := &c.Blocks[d.n(len(c.Blocks))]
	if len(*b) == 0 {
		return
	}
	in := &(*b)[d.n(len(*b))]
	list := one(d, &in.Ds, &in.As, &in.To)
	switch d.n(14) {
	case 0:
		*one(d, &c.Params, &c.Results, &c.Vars, &c.Slots) = number()
	case 1:
		*b = nil
	case 2:
		c.Blocks = c.Blocks[:1+d.n(len(c.Blocks))]
	case 3:
		*b = append(*b, *in)
	case 4, 5:
		in.Op = one(d, number(), d.n(15), api.LoadSlot, api.StoreSlot)
	case 6:
		in.N = number()
	case 7:
		in.S = one(d, "", "f0", "f1", "f9", "+", "int", "text", "?")
	case 8:
		*list = append(*list, number())
	case 9:
		c.Name = one(d, "", "f0", "f1", "f9")
	case 10:
		p.Funcs = p.Funcs[:1+d.n(len(p.Funcs))]
	default:
		if len(*list) > 0 {
			(*list)[d.n(len(*list))] = number()
		}
	}
}
