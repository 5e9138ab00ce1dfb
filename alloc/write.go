package alloc

import (
	"postern/api"
	"postern/code"
)

// writer of machine code of variables that have homes.
type writer struct {
	homes
	first  int // the first register that is no home
	spares int // how many of these were needed at once
	block  []api.Instr
}

func newWriter(h homes) *writer {
	w := &writer{homes: h}
	for _, r := range h.regs {
		w.first = max(w.first, r+1)
	}
	return w
}

// code of a function.
func (w *writer) code(c api.Code) api.Code {
	m := api.Code{Name: c.Name, Params: c.Params, Results: c.Results, Slots: len(w.slots)}
	w.params(c.Params)
	for _, block := range c.Blocks {
		for _, in := range block {
			w.instr(in)
		}
		m.Blocks = append(m.Blocks, w.block)
		w.block = nil
	}
	m.Vars = w.first + w.spares
	return m
}

// params that may be asked for their first values.
func (w *writer) params(many int) {
	for v := range many {
		if r, ok := w.regs[v]; ok && w.atStart(v) {
			w.load(r, v)
		}
	}
}

func (w *writer) add(in api.Instr) { w.block = append(w.block, in) }

// load a variable's slot into a register.
func (w *writer) load(r, v int) {
	w.add(api.Instr{Op: api.LoadSlot, Ds: []int{r}, N: w.slots[v]})
}

// store a register in a variable's slot.
func (w *writer) store(v, r int) {
	w.add(api.Instr{Op: api.StoreSlot, As: []int{r}, N: w.slots[v]})
}

func (w *writer) instr(in api.Instr) {
	switch {
	case in.Op == api.Move:
		w.move(in.Ds[0], in.As[0])
	case passes(in.Op):
		w.pass(code.Copy(in))
	default:
		w.plain(code.Copy(in))
	}
}

// spare register, the one that comes behind so many others.
func (w *writer) spare(others int) int {
	w.spares = max(w.spares, others+1)
	return w.first + others
}

// target: the register in which a variable is set.
func (w *writer) target(d int) int {
	if r, ok := w.regs[d]; ok {
		return r
	}
	return w.spare(0)
}

// keep a variable that was set in a register.
func (w *writer) keep(d, r int) {
	if _, ok := w.regs[d]; !ok || w.uses[d].kept() {
		w.store(d, r)
	}
}

// plain instruction, whose variables must be in registers.
func (w *writer) plain(in api.Instr) {
	loaded := map[int]int{}
	for i, a := range in.As {
		r, ok := w.regs[a]
		if !ok {
			r, ok = loaded[a]
		}
		if !ok {
			r = w.spare(len(loaded))
			loaded[a] = r
			w.load(r, a)
		}
		in.As[i] = r
	}
	if len(in.Ds) == 0 {
		w.add(in)
		return
	}
	d := in.Ds[0]
	in.Ds[0] = w.target(d)
	w.add(in)
	w.keep(d, in.Ds[0])
}

// move a variable to another one, by as few instructions as its homes allow.
func (w *writer) move(d, a int) {
	if d == a {
		return
	}
	r, ok := w.regs[a]
	if !ok {
		r = w.target(d)
		w.load(r, a)
	}
	if to, ok := w.regs[d]; ok && to != r {
		w.add(api.Instr{Op: api.Move, Ds: []int{to}, As: []int{r}})
	}
	w.keep(d, r)
}

// pass variables on, and take those that are given: by their slots.
func (w *writer) pass(in api.Instr) {
	for _, a := range different(in.As) {
		if r, ok := w.regs[a]; ok && !w.uses[a].kept() {
			w.store(a, r)
		}
	}
	given := in.Ds
	in.As, in.Ds = w.slotsOf(in.As), w.slotsOf(in.Ds)
	w.add(in)
	for _, d := range given {
		if r, ok := w.regs[d]; ok {
			w.load(r, d)
		}
	}
}

// slotsOf variables.
func (w *writer) slotsOf(vars []int) []int {
	l := make([]int, len(vars))
	for i, v := range vars {
		l[i] = w.slots[v]
	}
	return l
}
