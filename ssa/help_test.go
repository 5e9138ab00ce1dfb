package ssa_test

import (
	"slices"
	"testing"

	"postern/api"
	"postern/ir"
	"postern/ssa"
)

// Short ways to write instructions.

func set(d, n int) api.Instr { return api.Instr{Op: api.Const, Ds: []int{d}, N: n} }

func move(d, a int) api.Instr { return api.Instr{Op: api.Move, Ds: []int{d}, As: []int{a}} }

func calc(d, a int, op string, b int) api.Instr {
	return api.Instr{Op: api.Math, S: op, Ds: []int{d}, As: []int{a, b}}
}

func load(d, a, n int) api.Instr {
	return api.Instr{Op: api.Load, Ds: []int{d}, As: []int{a}, N: n}
}

func store(a, n, value int) api.Instr {
	return api.Instr{Op: api.Store, As: []int{a, value}, N: n}
}

func alloc(d, a int) api.Instr { return api.Instr{Op: api.Alloc, Ds: []int{d}, As: []int{a}} }

func invoke(name string, ds []int, as ...int) api.Instr {
	return api.Instr{Op: api.Invoke, S: name, Ds: ds, As: as}
}

func show(a int) api.Instr { return showAs("int", a) }

func showAs(kind string, as ...int) api.Instr { return api.Instr{Op: api.Show, S: kind, As: as} }

func jump(to int) api.Instr { return api.Instr{Op: api.Jump, To: []int{to}} }

func choose(a, yes, no int) api.Instr {
	return api.Instr{Op: api.Choose, As: []int{a}, To: []int{yes, no}}
}

func pick(a int, to ...int) api.Instr { return api.Instr{Op: api.Pick, As: []int{a}, To: to} }

func back(as ...int) api.Instr { return api.Instr{Op: api.Back, As: as} }

func fail(n int) api.Instr { return api.Instr{Op: api.Fail, N: n} }

func phi(d int, as ...int) api.Instr { return api.Instr{Op: api.Phi, Ds: []int{d}, As: as} }

// block of instructions.
func block(ins ...api.Instr) []api.Instr { return ins }

// mainOf: a first function, of these blocks.
func mainOf(vars int, blocks ...[]api.Instr) api.Code {
	return api.Code{Name: "main", Vars: vars, Blocks: blocks}
}

// mustBuild, mustOpt and mustBack: of code of which that may not be refused; what comes of it is in form.

func mustBuild(t *testing.T, what any, p api.Program, c api.Code) api.Code {
	t.Helper()
	return mustMake(t, what, "Build", ssa.Build, ssa.Check, p, c)
}

func mustOpt(t *testing.T, what any, p api.Program, c api.Code) api.Code {
	t.Helper()
	made := mustMake(t, what, "Opt", ssa.Opt, ssa.Check, p, c)
	if instrs(made) > instrs(c) {
		t.Fatalf("%v: Opt makes %d instructions of %d: %+v", what, instrs(made), instrs(c), made)
	}
	return made
}

func mustBack(t *testing.T, what any, p api.Program, c api.Code) api.Code {
	t.Helper()
	return mustMake(t, what, "Back", ssa.Back, ir.CheckCode, p, c)
}

type maker func(p api.Program, c api.Code) (api.Code, api.Errno)

type teller func(p api.Program, c api.Code) api.Errno

func mustMake(t *testing.T, what any, name string, do maker, check teller, p api.Program, c api.Code) api.Code {
	t.Helper()
	made, errno := do(p, c)
	if errno != api.OK {
		t.Fatalf("%v: %s refuses %+v: %v", what, name, c, errno)
	}
	if errno := check(p, made); errno != api.OK {
		t.Fatalf("%v: what %s makes is refused: %v: %+v of %+v", what, name, errno, made, c)
	}
	if made.Name != c.Name || made.Params != c.Params || made.Results != c.Results {
		t.Fatalf("%v: %s makes another function: %+v of %+v", what, name, made, c)
	}
	return made
}

// instrs: how many there are.
func instrs(c api.Code) int {
	n := 0
	for _, b := range c.Blocks {
		n += len(b)
	}
	return n
}

// ops: how many instructions have an operator.
func ops(c api.Code, op int) int {
	n := 0
	for _, b := range c.Blocks {
		for _, in := range b {
			if in.Op == op {
				n++
			}
		}
	}
	return n
}

// begins: what the one prints is how what the other one prints begins.
func begins(a, b api.Run) bool {
	return len(a.Lines) <= len(b.Lines) && slices.Equal(a.Lines, b.Lines[:len(a.Lines)])
}

// agree: both runs print the same, and end so, unless one is Spent.
func agree(a, b api.Run) bool {
	switch {
	case a.End == api.Spent && begins(a, b), b.End == api.Spent && begins(b, a):
		return true
	}
	return a.End == b.End && slices.Equal(a.Lines, b.Lines)
}

// repeated: so many times the same.
func repeated[T any](n int, x T) []T {
	l := make([]T, n)
	for i := range l {
		l[i] = x
	}
	return l
}

// die: numbers that look drawn, the same each time.
type die uint64

func (d *die) n(most int) int {
	*d = *d*6364136223846793005 + 1442695040888963407
	return int(uint64(*d>>33) % uint64(most))
}

// one of these.
func one[T any](d *die, l ...T) T { return l[d.n(len(l))] }

func (d *die) list(n, most int) []int {
	l := make([]int, n)
	for i := range l {
		l[i] = d.n(most)
	}
	return l
}
