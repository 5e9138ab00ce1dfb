package ssa

import (
	"slices"

	"postern/api"
	"postern/bitset"
)

// started: code to whose first block nothing leads. It may be changed.
func started(c api.Code) api.Code {
	if len(Ahead(c)[0]) == 0 {
		return c
	}
	for _, block := range c.Blocks {
		end := block[len(block)-1]
		for i := range end.To {
			end.To[i]++
		}
	}
	c.Blocks = slices.Insert(c.Blocks, 0, []api.Instr{jump(1)})
	return c
}

// reached: the code without what stands behind calls that give more than a function may. No program that may be has such a function, so no run gets there; but each result of each call would need a variable of its own, and there may be too many. The calls themselves stay, so that what is made of the code is refused like it where they do not fit.
func reached(c api.Code) api.Code {
	blocks := make([][]api.Instr, len(c.Blocks))
	for b, block := range c.Blocks {
		blocks[b] = block
		if at := slices.IndexFunc(block, givesTooMuch); at >= 0 {
			blocks[b] = slices.Concat(block[:at+1], []api.Instr{{Op: api.Fail, N: api.BadAt}})
		}
	}
	c.Blocks = blocks
	return c
}

func givesTooMuch(in api.Instr) bool { return len(in.Ds) > api.MaxWords }

func jump(to int) api.Instr { return api.Instr{Op: api.Jump, To: []int{to}} }

// name of a variable's value, and the block from which on it is the last one that was set.
type name struct{ variable, block int }

// builder of code in which each variable is set once: each value of a variable gets a name.
type builder struct {
	*graph
	flow  flow
	lives []bitset.Set
	wants [][]int        // of each block the variables whose values it must have Phis for
	names map[int][]name // of each variable; blocks above others stand first
	next  int            // the first name that is free
}

func newBuilder(c api.Code) *builder {
	b := &builder{graph: graphOf(started(graphOf(c).code())), names: map[int][]name{}}
	b.flow = b.graph.flow()
	b.lives = b.graph.lives(b.flow)
	b.wants = make([][]int, len(b.blocks))
	return b
}

// build: names instead of variables; false: it would pass limits.
func (b *builder) build() bool {
	zeros := b.zeros()
	if !b.place(b.head.Params + len(zeros)) {
		return false
	}
	for v := range b.head.Params {
		b.set(v, 0)
	}
	var starts []api.Instr
	for _, v := range zeros {
		starts = append(starts, api.Instr{Op: api.Const, Ds: []int{b.set(v, 0)}})
	}
	b.phis()
	for _, at := range b.flow.tree {
		b.rename(at)
	}
	b.blocks[0].body = slices.Concat(starts, b.blocks[0].body)
	b.head.Vars = b.next
	return b.fits()
}

// zeros: the variables that are asked where nothing has set them.
func (b *builder) zeros() []int {
	return slices.DeleteFunc(b.lives[0].All(), func(v int) bool { return v < b.head.Params })
}

// place Phis where several values of a variable meet that may be asked; names: how many values there are ahead of that. False: there are more than a function may have.
func (b *builder) place(names int) bool {
	sets := map[int][]int{} // of each variable the blocks that set it
	for _, at := range b.flow.order {
		for _, in := range b.blocks[at].body {
			if names += len(in.Ds); names > api.MaxVars {
				return false
			}
			for _, d := range in.Ds {
				sets[d] = append(sets[d], at)
			}
		}
	}
	fronts := b.fronts()
	for v := range b.head.Vars {
		first := 0 // which sets each variable, too: to an argument, or to 0
		if names += b.placeOf(v, append(sets[v], first), fronts); names > api.MaxVars {
			return false
		}
	}
	return names <= api.MaxVars
}

// placeOf a variable that is set in some blocks; how many Phis it must have, which set it, too.
func (b *builder) placeOf(v int, sets []int, fronts [][]int) int {
	many := 0
	for len(sets) > 0 {
		at := sets[len(sets)-1]
		sets = sets[:len(sets)-1]
		for _, to := range fronts[at] {
			if b.lives[to].Has(v) && !endsWith(b.wants[to], v) {
				b.wants[to] = append(b.wants[to], v)
				sets = append(sets, to)
				many++
			}
		}
	}
	return many
}

// fronts: of each block those behind it that it is not above, but above one ahead of them: there what it sets meets other values.
func (b *builder) fronts() [][]int {
	fronts := make([][]int, len(b.blocks))
	for to, n := range b.blocks {
		for _, at := range n.ahead {
			for ; at != b.flow.upper[to] && !endsWith(fronts[at], to); at = b.flow.upper[at] {
				fronts[at] = append(fronts[at], to)
			}
		}
	}
	return fronts
}

// phis: those that blocks must have, without what they ask.
func (b *builder) phis() {
	for at := range b.blocks {
		n := &b.blocks[at]
		for range b.wants[at] {
			n.phis = append(n.phis, api.Instr{Op: api.Phi, Ds: []int{b.next}, As: make([]int, len(n.ahead))})
			b.next++
		}
	}
}

// set a variable in a block: the name of its value.
func (b *builder) set(v, at int) int {
	b.names[v] = append(b.names[v], name{b.next, at})
	b.next++
	return b.next - 1
}

// ask for the name of a variable's value. What was set in blocks that are not above this one will not be asked again: those below them were all looked at.
func (b *builder) ask(v, at int) int {
	l := b.names[v]
	for !b.flow.isAbove(l[len(l)-1].block, at) {
		l = l[:len(l)-1]
	}
	b.names[v] = l
	return l[len(l)-1].variable
}

// rename the variables of a block, and those that Phis behind it ask at its end.
func (b *builder) rename(at int) {
	n := &b.blocks[at]
	for i, v := range b.wants[at] {
		b.names[v] = append(b.names[v], name{n.phis[i].Ds[0], at})
	}
	for _, in := range n.body {
		for i, v := range in.As {
			in.As[i] = b.ask(v, at)
		}
		for i, v := range in.Ds {
			in.Ds[i] = b.set(v, at)
		}
	}
	for _, to := range b.flow.next[at] {
		next := &b.blocks[to]
		from := next.from(at)
		for i, v := range b.wants[to] {
			next.phis[i].As[from] = b.ask(v, at)
		}
	}
}
