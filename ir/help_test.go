package ir_test

import (
	"math"
	"slices"
	"testing"

	"postern/api"
	"postern/ir"
)

const (
	least    = math.MinInt
	greatest = math.MaxInt
)

// Instructions of each operator, as they must be.

func set(d, n int) api.Instr { return api.Instr{Op: api.Const, Ds: []int{d}, N: n} }

func move(d, a int) api.Instr { return api.Instr{Op: api.Move, Ds: []int{d}, As: []int{a}} }

func calc(d, a int, op string, b int) api.Instr {
	return api.Instr{Op: api.Math, S: op, Ds: []int{d}, As: []int{a, b}}
}

func load(d, a, n int) api.Instr {
	return api.Instr{Op: api.Load, Ds: []int{d}, As: []int{a}, N: n}
}

func store(a, n, value int) api.Instr {
	return api.Instr{Op: api.Store, As: []int{a, value}, N: n}
}

func alloc(d, a int) api.Instr { return api.Instr{Op: api.Alloc, Ds: []int{d}, As: []int{a}} }

func invoke(name string, ds []int, as ...int) api.Instr {
	return api.Instr{Op: api.Invoke, S: name, Ds: ds, As: as}
}

func show(kind string, as ...int) api.Instr { return api.Instr{Op: api.Show, S: kind, As: as} }

func jump(to int) api.Instr { return api.Instr{Op: api.Jump, To: []int{to}} }

func choose(a, yes, no int) api.Instr {
	return api.Instr{Op: api.Choose, As: []int{a}, To: []int{yes, no}}
}

func pick(a int, to ...int) api.Instr { return api.Instr{Op: api.Pick, As: []int{a}, To: to} }

func back(as ...int) api.Instr { return api.Instr{Op: api.Back, As: as} }

func fail(n int) api.Instr { return api.Instr{Op: api.Fail, N: n} }

// block of instructions.
func block(ins ...api.Instr) []api.Instr { return ins }

// mainOf: a first function, of these blocks.
func mainOf(vars int, blocks ...[]api.Instr) api.Code {
	return api.Code{Name: "main", Vars: vars, Blocks: blocks}
}

// program of functions.
func program(fs ...api.Code) api.Program { return api.Program{Funcs: fs} }

// idle: a function that gives zeros.
func idle(name string, params, results int) api.Code {
	as := make([]int, results)
	return api.Code{Name: name, Params: params, Results: results, Vars: params + 1, Blocks: [][]api.Instr{{back(as...)}}}
}

func wantCode(t *testing.T, what any, p api.Program, c api.Code, want api.Errno) {
	t.Helper()
	if got := ir.CheckCode(p, c); got != want {
		t.Errorf("%v: %v, want %v", what, got, want)
	}
}

func wantCheck(t *testing.T, what any, p api.Program, want api.Errno) {
	t.Helper()
	if got := ir.Check(p); got != want {
		t.Errorf("%v: %v, want %v", what, got, want)
	}
}

// wantRun of a program that may be, with plenty of fuel.
func wantRun(t *testing.T, what any, p api.Program, heap int, end int, lines ...string) {
	t.Helper()
	wantSteps(t, what, p, heap, api.MaxFuel, end, lines...)
}

func wantSteps(t *testing.T, what any, p api.Program, heap, fuel int, end int, lines ...string) {
	t.Helper()
	got, errno := ir.Run(p, heap, fuel)
	if errno != api.OK || got.End != end || !slices.Equal(got.Lines, lines) {
		t.Errorf("%v: %q, %d, %v; want %q, %d", what, got.Lines, got.End, errno, lines, end)
	}
}

// repeated: so many times the same.
func repeated[T any](n int, x T) []T {
	l := make([]T, n)
	for i := range l {
		l[i] = x
	}
	return l
}
