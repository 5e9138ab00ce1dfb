package ssa_test

import (
	"math"
	"slices"
	"strconv"

	"postern/api"
	"postern/ir"
)

// player does a program in the plainest way, functions with Phis, too: a call of a function is one of play.
type player struct {
	p     api.Program
	heap  []int
	room  int
	fuel  int
	lines []string
	depth int
}

// ending of a run: what play panics with.
type ending int

func played(p api.Program, room, fuel int) (r api.Run) {
	l := &player{p: p, heap: append([]int(nil), p.Data...), room: room, fuel: fuel}
	defer func() {
		r = api.Run{Lines: l.lines, End: int(recover().(ending))}
	}()
	l.play(p.Funcs[0].Name, nil)
	panic(ending(api.Done))
}

// ran: what a program does; ir does it, if it has no Phis.
func ran(p api.Program, room, fuel int) api.Run {
	phis := 0
	for _, c := range p.Funcs {
		phis += ops(c, api.Phi)
	}
	if phis > 0 {
		return played(p, room, fuel)
	}
	r, errno := ir.Run(p, room, fuel)
	if errno != api.OK {
		panic(errno)
	}
	return r
}

func (l *player) must(so bool, end int) {
	if !so {
		panic(ending(end))
	}
}

func (l *player) play(name string, args []int) []int {
	c := l.p.Funcs[slices.IndexFunc(l.p.Funcs, func(c api.Code) bool { return c.Name == name })]
	l.depth++
	defer func() { l.depth-- }()
	vars := make([]int, c.Vars)
	copy(vars, args)
	block, at := 0, 0
	for {
		in := c.Blocks[block][at]
		at++
		l.must(l.fuel > 0, api.Spent)
		l.fuel--
		as := asked(vars, in.As)
		switch to := next(in, as); {
		case in.Op == api.Back:
			return as
		case to >= 0:
			block, at = to, l.come(c, vars, block, to)
		default:
			for i, n := range l.done(in, as) {
				vars[in.Ds[i]] = n
			}
		}
	}
}

func asked(vars, as []int) []int {
	var l []int
	for _, a := range as {
		l = append(l, vars[a])
	}
	return l
}

// next: the block that an instruction leads to; -1: it does not end one.
func next(in api.Instr, as []int) int {
	switch in.Op {
	case api.Jump:
		return in.To[0]
	case api.Choose:
		if as[0] != 0 {
			return in.To[0]
		}
		return in.To[1]
	case api.Pick:
		for i, to := range in.To {
			if as[0] == i {
				return to
			}
		}
		return in.To[len(in.To)-1]
	}
	return -1
}

// come from a block to another one: how many Phis are done there, all at once.
func (l *player) come(c api.Code, vars []int, from, to int) int {
	place := 0
	for b, block := range c.Blocks[:from] {
		if leadsTo(c, b, to) && len(block) > 0 {
			place++
		}
	}
	old := slices.Clone(vars)
	phis := 0
	for _, in := range c.Blocks[to] {
		if in.Op == api.Phi {
			vars[in.Ds[0]] = old[in.As[place]]
			phis++
		}
	}
	return phis
}

func leadsTo(c api.Code, from, to int) bool {
	l := c.Blocks[from]
	return len(l) > 0 && slices.Contains(l[len(l)-1].To, to)
}

// done: the results of an instruction with these arguments.
func (l *player) done(in api.Instr, as []int) []int {
	switch in.Op {
	case api.Const:
		return []int{in.N}
	case api.Math:
		n, ok := result(in.S, as[0], as[1])
		l.must(ok, api.BadZero)
		return []int{n}
	case api.Load, api.Store:
		l.must(as[0] >= 0 && as[0]+in.N >= 0 && as[0]+in.N < len(l.heap), api.BadAt)
		if in.Op == api.Store {
			l.heap[as[0]+in.N] = as[1]
			return nil
		}
		return []int{l.heap[as[0]+in.N]}
	case api.Alloc:
		l.must(as[0] >= 0, api.BadAt)
		l.must(as[0] <= l.room && len(l.heap)+as[0] <= l.room, api.BadRoom)
		l.heap = append(l.heap, make([]int, as[0])...)
		return []int{len(l.heap) - as[0]}
	case api.Invoke:
		l.must(l.depth < api.MaxCalls, api.BadDeep)
		return l.play(in.S, as)
	case api.Show:
		l.print(in.S, as)
		return nil
	case api.Fail:
		l.must(false, in.N)
	}
	return as
}

func (l *player) print(kind string, as []int) {
	l.must(len(l.lines) < api.MaxPrint, api.BadLong)
	line := strconv.Itoa(as[0])
	switch kind {
	case "bool":
		line = strconv.FormatBool(as[0] != 0)
	case "text":
		line = ""
		l.must(as[1] >= 0, api.BadAt)
		for i := range as[1] {
			l.must(as[0] >= 0 && as[0] < len(l.heap)-i, api.BadAt)
			line += string([]byte{byte(l.heap[as[0]+i] & 255)})
		}
	}
	l.lines = append(l.lines, line)
}

// result of an operator; false: divided by 0.
func result(op string, a, b int) (int, bool) {
	truth := map[bool]int{true: 1}
	switch op {
	case "/", "%":
		if b == 0 {
			return 0, false
		}
		if a == math.MinInt && b == -1 {
			return map[string]int{"/": math.MinInt}[op], true
		}
		return map[string]int{"/": a / b, "%": a % b}[op], true
	}
	return map[string]int{
		"+": a + b, "-": a - b, "*": a * b, "==": truth[a == b], "!=": truth[a != b],
		"<": truth[a < b], "<=": truth[a <= b], ">": truth[a > b], ">=": truth[a >= b],
	}[op], true
}
