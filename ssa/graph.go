package ssa

import (
	"slices"

	"postern/api"
	"postern/code"
)

// graph: code that is being changed.
type graph struct {
	head   api.Code // without its blocks
	blocks []node
}

// node: a block. The arguments of its Phis stand for those ahead of it, one by one.
type node struct {
	ahead []int
	phis  []api.Instr
	body  []api.Instr // all others; there are none if the block is gone
}

// graphOf code that may be; the blocks that can't be done are gone.
func graphOf(c api.Code) *graph {
	g := &graph{head: c, blocks: make([]node, len(c.Blocks))}
	g.head.Blocks = nil
	ahead := code.Ahead(code.Leads(c.Blocks))
	for b, block := range c.Blocks {
		all, phis := code.Copies(block), phisOf(block)
		g.blocks[b] = node{ahead[b], all[:phis:phis], all[phis:]}
	}
	g.settle()
	return g
}

func (n *node) end() *api.Instr { return &n.body[len(n.body)-1] }

// from: which arguments of the Phis stand for a block ahead.
func (n *node) from(b int) int {
	at, _ := slices.BinarySearch(n.ahead, b)
	return at
}

// flow as it is now.
func (g *graph) flow() flow {
	leads := make([][]int, len(g.blocks))
	for b := range g.blocks {
		if n := &g.blocks[b]; len(n.body) > 0 {
			leads[b] = n.end().To
		}
	}
	return flowOf(leads)
}

// settle what hangs on the ends of blocks, behind changes of these: blocks that can't be done any more go, and so do arguments of Phis that stand for what does not lead there any more.
func (g *graph) settle() {
	f := g.flow()
	for b := range g.blocks {
		if !f.canBeDone(b) {
			g.blocks[b] = node{}
			continue
		}
		n := &g.blocks[b]
		ahead := slices.DeleteFunc(slices.Clone(f.ahead[b]), func(a int) bool { return !f.canBeDone(a) })
		for i := range n.phis {
			n.phis[i].As = moved(n.phis[i].As, n.ahead, ahead)
		}
		n.ahead = ahead
	}
}

// moved: arguments that stand for some blocks, as they stand for others of these.
func moved(args, were, are []int) []int {
	stood := map[int]int{}
	for i, b := range were {
		stood[b] = args[i]
	}
	l := make([]int, len(are))
	for i, b := range are {
		l[i] = stood[b]
	}
	return l
}

// instrs: how many instructions there are, Phis too.
func (g *graph) instrs() int {
	many := g.bodies()
	for _, n := range g.blocks {
		many += len(n.phis)
	}
	return many
}

// bodies: how many instructions there are, but for Phis.
func (g *graph) bodies() int {
	many := 0
	for _, n := range g.blocks {
		many += len(n.body)
	}
	return many
}

// fits: are there no more blocks, variables and instructions than a function may have, if Phis do not count?
func (g *graph) fits() bool {
	blocks := 0
	for _, n := range g.blocks {
		blocks += min(1, len(n.body))
	}
	return blocks <= api.MaxBlocks && g.head.Vars <= api.MaxVars && g.bodies() <= api.MaxInstrs
}

// code of it, in new memory: the blocks that are gone leave no gaps.
func (g *graph) code() api.Code {
	c := g.head
	places := map[int]int{}
	for b, n := range g.blocks {
		if len(n.body) > 0 {
			places[b] = len(places)
		}
	}
	for _, n := range g.blocks {
		if len(n.body) == 0 {
			continue
		}
		block := code.Copies(slices.Concat(n.phis, n.body))
		for i, to := range block[len(block)-1].To {
			block[len(block)-1].To[i] = places[to]
		}
		c.Blocks = append(c.Blocks, block)
	}
	return c
}

// number the variables anew: the params, and then those that are set, in their order.
func (g *graph) number() {
	numbers := map[int]int{}
	name := func(v int) {
		if _, ok := numbers[v]; !ok {
			numbers[v] = len(numbers)
		}
	}
	for v := range g.head.Params {
		name(v)
	}
	g.each(func(in *api.Instr) {
		for _, d := range in.Ds {
			name(d)
		}
	})
	g.each(func(in *api.Instr) {
		rename(in.Ds, numbers)
		rename(in.As, numbers)
	})
	g.head.Vars = len(numbers)
}

func rename(vars []int, names map[int]int) {
	for i, v := range vars {
		vars[i] = names[v]
	}
}

// each instruction, Phis too.
func (g *graph) each(do func(in *api.Instr)) {
	for b := range g.blocks {
		g.blocks[b].each(do)
	}
}

func (n *node) each(do func(in *api.Instr)) {
	for i := range n.phis {
		do(&n.phis[i])
	}
	for i := range n.body {
		do(&n.body[i])
	}
}
