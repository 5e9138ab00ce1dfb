package ssa

import (
	"slices"

	"postern/api"
	"postern/calc"
)

// fact that is known of a variable that is set: it is a number, or it may be many.
type fact struct {
	many bool
	n    int
}

// knower of what is so wherever a run goes. It begins with nothing, as if no run went on; what it finds then never comes to less.
type knower struct {
	*graph
	flow  flow
	facts map[int]fact
	came  [][]bool       // of each block, of those ahead, whether a run may come from there
	met   []bool         // the blocks that a run may come to
	again []bool         // those that are to be looked at, when they are met
	stale [][]bool       // of these the Phis that are
	users map[int][]spot // of each variable the Phis that ask it, and the bodies that do
}

// inBody: where all of a block stands that is no Phi.
const inBody = none

// constants: what is a number on all ways stands there as such, and what no run comes to goes.
func (g *graph) constants() {
	k := &knower{graph: g, flow: g.flow(), facts: map[int]fact{}, users: map[int][]spot{}}
	k.came, k.stale = make([][]bool, len(g.blocks)), make([][]bool, len(g.blocks))
	k.met, k.again = make([]bool, len(g.blocks)), make([]bool, len(g.blocks))
	for b, n := range g.blocks {
		k.came[b], k.stale[b] = make([]bool, len(n.ahead)), make([]bool, len(n.phis))
		for i, in := range n.phis {
			k.use(in, spot{b, i})
		}
		for _, in := range n.body {
			k.use(in, spot{b, inBody})
		}
	}
	for v := range g.head.Params {
		k.facts[v] = fact{many: true}
	}
	k.met[0], k.again[0] = true, true
	for k.lookOn() {
	}
	for _, b := range k.flow.order {
		k.write(b)
	}
	g.settle()
}

// use of variables by an instruction.
func (k *knower) use(in api.Instr, s spot) {
	for _, a := range in.As {
		if l := k.users[a]; len(l) == 0 || l[len(l)-1] != s {
			k.users[a] = append(l, s)
		}
	}
}

// lookOn: were there blocks to be looked at?
func (k *knower) lookOn() bool {
	some := false
	for _, b := range k.flow.order {
		if k.met[b] && k.again[b] {
			k.again[b], some = false, true
			k.look(b)
		}
	}
	return some
}

func (k *knower) look(b int) {
	n := &k.blocks[b]
	for i, in := range n.phis {
		if k.stale[b][i] {
			k.stale[b][i] = false
			k.learn(in.Ds[0], k.meeting(b, in))
		}
	}
	for _, in := range n.body {
		if k.endsHere(in) {
			return
		}
		for _, d := range in.Ds {
			k.learn(d, k.made(in))
		}
	}
	for _, to := range k.places(*n.end()) {
		if from := k.blocks[to].from(b); !k.came[to][from] {
			k.came[to][from], k.met[to], k.again[to] = true, true, true
			for i := range k.stale[to] {
				k.stale[to][i] = true
			}
		}
	}
}

func (k *knower) learn(v int, f fact) {
	old, ok := k.facts[v]
	if ok && (old.many || old == f) {
		return
	}
	k.facts[v] = f
	if ok {
		k.facts[v] = fact{many: true}
	}
	for _, s := range k.users[v] {
		k.again[s.block] = true
		if s.at != inBody {
			k.stale[s.block][s.at] = true
		}
	}
}

// number that a variable is known to be.
func (k *knower) number(v int) (int, bool) {
	f, ok := k.facts[v]
	return f.n, ok && !f.many
}

// meeting of what a Phi has, coming from wherever a run may come.
func (k *knower) meeting(b int, in api.Instr) fact {
	var all fact
	some := false
	for i, a := range in.As {
		f := k.facts[a]
		switch {
		case !k.came[b][i]:
		case !some:
			all, some = f, true
		case all != f:
			return fact{many: true}
		}
	}
	return all
}

// made: what is known of what an instruction makes.
func (k *knower) made(in api.Instr) fact {
	switch in.Op {
	case api.Const:
		return fact{n: in.N}
	case api.Move:
		return k.facts[in.As[0]]
	case api.Math:
		a, known := k.number(in.As[0])
		b, too := k.number(in.As[1])
		if n, ok := calc.Two(a, in.S, b); ok && known && too {
			return fact{n: n}
		}
	}
	return fact{many: true}
}

// endsHere: does the run end by dividing by 0?
func (k *knower) endsHere(in api.Instr) bool {
	if in.Op != api.Math || !calc.Divides(in.S) {
		return false
	}
	n, ok := k.number(in.As[1])
	return ok && n == 0
}

// places that the end of a block may lead to.
func (k *knower) places(end api.Instr) []int {
	if len(end.As) == 0 || len(end.To) == 0 {
		return end.To
	}
	n, ok := k.number(end.As[0])
	last := len(end.To) - 1
	switch {
	case !ok:
		return end.To
	case end.Op == api.Choose && n != 0:
		return end.To[:1]
	case end.Op == api.Pick && 0 <= n && n < last:
		return end.To[n : n+1]
	}
	return end.To[last:]
}

// write what is known of a block into it.
func (k *knower) write(b int) {
	n := &k.blocks[b]
	var phis, numbers []api.Instr
	for _, in := range n.phis {
		if number, ok := k.number(in.Ds[0]); ok {
			numbers = append(numbers, constant(in.Ds[0], number))
		} else {
			phis = append(phis, in)
		}
	}
	for i, in := range n.body {
		if k.endsHere(in) {
			n.body = append(n.body[:i], api.Instr{Op: api.Fail, N: api.BadZero})
			break
		}
		if len(in.Ds) == 1 {
			if number, ok := k.number(in.Ds[0]); ok {
				n.body[i] = constant(in.Ds[0], number)
			}
		}
	}
	if to, ok := alone(k.places(*n.end())); ok {
		*n.end() = jump(to)
	}
	n.phis, n.body = phis, slices.Concat(numbers, n.body)
}

func constant(d, n int) api.Instr { return api.Instr{Op: api.Const, Ds: []int{d}, N: n} }
