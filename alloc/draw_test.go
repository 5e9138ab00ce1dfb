package alloc_test

import (
	"math"
	"strconv"

	"postern/api"
)

// drawnProgram: functions that may call each other; some have far more variables than there are registers.
func drawnProgram(d *die) api.Program {
	p := api.Program{Data: d.list(d.n(5), 300)}
	for i := range 1 + d.n(4) {
		c := function("f"+strconv.Itoa(i), one(d, 0, 1, 2, 3, 5, 9, 16), one(d, 0, 1, 2, 3, 5, 9, 16), 0)
		if i == 0 {
			c.Params, c.Results = 0, 0
		}
		c.Vars = c.Params + one(d, 1, 2, 3, 5, 8, 12, 20)
		p.Funcs = append(p.Funcs, c)
	}
	for i := range p.Funcs {
		c := &p.Funcs[i]
		c.Blocks = make([][]api.Instr, 1+d.n(10))
		for b := range c.Blocks {
			for range d.n(12) {
				c.Blocks[b] = append(c.Blocks[b], drawnInner(d, p.Funcs, *c))
			}
			c.Blocks[b] = append(c.Blocks[b], drawnEnd(d, *c))
		}
	}
	return p
}

// drawnInner: an instruction that does not end a block.
func drawnInner(d *die, fs []api.Code, c api.Code) api.Instr {
	v := func() int { return d.n(c.Vars) }
	switch d.n(24) {
	case 0, 1, 2:
		return set(v(), one(d, 0, 0, 1, 1, 2, 3, -1, 7, math.MinInt, math.MaxInt))
	case 3, 4, 5, 6:
		return move(v(), v())
	case 7, 8, 9, 10, 11, 12:
		return calc(v(), v(), one(d, "+", "-", "*", "+", "-", "/", "%", "==", "!=", "<", "<=", ">", ">="), v())
	case 13:
		return load(v(), v(), d.n(4)-1)
	case 14:
		return store(v(), d.n(4)-1, v())
	case 15:
		return room(v(), v())
	case 16:
		return one(d, showAs("bool", v()), showAs("text", v(), v()))
	case 17, 18, 19:
		return show(v())
	}
	f := one(d, fs...)
	if f.Results > c.Vars {
		return move(v(), v())
	}
	return invoke(f.Name, d.different(f.Results, c.Vars), d.list(f.Params, c.Vars)...)
}

func drawnEnd(d *die, c api.Code) api.Instr {
	n := len(c.Blocks)
	switch d.n(7) {
	case 0, 1:
		return jump(d.n(n))
	case 2, 3:
		return choose(d.n(c.Vars), d.n(n), d.n(n))
	case 4:
		return pick(d.n(c.Vars), d.list(1+d.n(4), n)...)
	case 5:
		if d.n(4) == 0 {
			return fail(api.BadAt + d.n(4))
		}
	}
	return back(d.list(c.Results, c.Vars)...)
}

// calm: a program in which little goes wrong, and each function that it calls stands behind the one that does: what is shown hangs on many values.
func calm(d *die) api.Program {
	var p api.Program
	for i := range 1 + d.n(3) {
		c := function("f"+strconv.Itoa(i), one(d, 0, 1, 4, 16), one(d, 0, 1, 4, 16), 0)
		if i == 0 {
			c.Params, c.Results = 0, 0
		}
		c.Vars = max(c.Params, c.Results) + one(d, 1, 4, 12, 30)
		p.Funcs = append(p.Funcs, c)
	}
	for i := range p.Funcs {
		c := &p.Funcs[i]
		c.Blocks = make([][]api.Instr, 1+d.n(6))
		for b := range c.Blocks {
			for v := range c.Vars {
				if b == 0 && v >= c.Params && d.n(3) > 0 {
					c.Blocks[b] = append(c.Blocks[b], set(v, d.n(1000)))
				}
			}
			for range d.n(15) {
				c.Blocks[b] = append(c.Blocks[b], calmInner(d, p.Funcs[i+1:], *c))
			}
			c.Blocks[b] = append(c.Blocks[b], calmEnd(d, *c, b))
		}
	}
	return p
}

func calmInner(d *die, others []api.Code, c api.Code) api.Instr {
	v := func() int { return d.n(c.Vars) }
	if d.n(5) == 0 && len(others) > 0 {
		if f := one(d, others...); f.Results <= c.Vars {
			return invoke(f.Name, d.different(f.Results, c.Vars), d.list(f.Params, c.Vars)...)
		}
	}
	switch d.n(5) {
	case 0:
		return show(v())
	case 1:
		return move(v(), v())
	case 2:
		return set(v(), d.n(100))
	}
	return calc(v(), v(), one(d, "+", "-", "*", "<", "=="), v())
}

// calmEnd of a block: the last one goes back, the others mostly lead on.
func calmEnd(d *die, c api.Code, b int) api.Instr {
	last := len(c.Blocks) - 1
	if b == last {
		return back(d.list(c.Results, c.Vars)...)
	}
	on := func() int { return b + 1 + d.n(last-b) }
	return one(d, jump(on()), choose(d.n(c.Vars), on(), on()), choose(d.n(c.Vars), on(), d.n(last+1)), pick(d.n(c.Vars), on(), on(), on()))
}

// shuffled: the same program with the blocks of its functions in another order, but for the first ones.
func shuffled(d *die, p api.Program) api.Program {
	p = copied(p)
	for i := range p.Funcs {
		old := p.Funcs[i].Blocks
		order := append([]int{0}, d.different(len(old)-1, len(old)-1)...) // of each block where it comes
		for b := 1; b < len(old); b++ {
			order[b]++
		}
		blocks := make([][]api.Instr, len(old))
		for b, ins := range old {
			end := ins[len(ins)-1]
			for j, to := range end.To {
				end.To[j] = order[to]
			}
			blocks[order[b]] = ins
		}
		p.Funcs[i].Blocks = blocks
	}
	return p
}
