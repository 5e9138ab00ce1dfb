package vm_test

import (
	"math"
	"slices"
	"testing"

	"postern/api"
	"postern/vm"
)

const (
	least    = math.MinInt
	greatest = math.MaxInt
)

// Instructions of each operator, as they must be.

func set(d, n int) api.Instr { return api.Instr{Op: api.Const, Ds: []int{d}, N: n} }

func move(d, a int) api.Instr { return api.Instr{Op: api.Move, Ds: []int{d}, As: []int{a}} }

func calc(d, a int, op string, b int) api.Instr {
	return api.Instr{Op: api.Math, S: op, Ds: []int{d}, As: []int{a, b}}
}

func load(d, a, n int) api.Instr {
	return api.Instr{Op: api.Load, Ds: []int{d}, As: []int{a}, N: n}
}

func store(a, n, value int) api.Instr {
	return api.Instr{Op: api.Store, As: []int{a, value}, N: n}
}

func alloc(d, a int) api.Instr { return api.Instr{Op: api.Alloc, Ds: []int{d}, As: []int{a}} }

func invoke(name string, ds []int, as ...int) api.Instr {
	return api.Instr{Op: api.Invoke, S: name, Ds: ds, As: as}
}

func show(kind string, as ...int) api.Instr { return api.Instr{Op: api.Show, S: kind, As: as} }

func jump(to int) api.Instr { return api.Instr{Op: api.Jump, To: []int{to}} }

func choose(a, yes, no int) api.Instr {
	return api.Instr{Op: api.Choose, As: []int{a}, To: []int{yes, no}}
}

func pick(a int, to ...int) api.Instr { return api.Instr{Op: api.Pick, As: []int{a}, To: to} }

func back(as ...int) api.Instr { return api.Instr{Op: api.Back, As: as} }

func fail(n int) api.Instr { return api.Instr{Op: api.Fail, N: n} }

// from a slot to a register, and keep a register in a slot.

func from(d, slot int) api.Instr { return api.Instr{Op: api.LoadSlot, Ds: []int{d}, N: slot} }

func keep(slot, a int) api.Instr { return api.Instr{Op: api.StoreSlot, As: []int{a}, N: slot} }

// block of instructions.
func block(ins ...api.Instr) []api.Instr { return ins }

// mainOf: a first function with all registers and so many slots, of these blocks.
func mainOf(slots int, blocks ...[]api.Instr) api.Code {
	return api.Code{Name: "main", Vars: api.Regs, Slots: slots, Blocks: blocks}
}

// program of functions.
func program(fs ...api.Code) api.Program { return api.Program{Funcs: fs} }

// withData: a program that has words on its heap.
func withData(p api.Program, data ...int) api.Program {
	p.Data = data
	return p
}

// straight: a program of one block, with all registers and so many slots; it has a Back at its end.
func straight(slots int, ins ...api.Instr) api.Program {
	return program(mainOf(slots, append(ins, back())))
}

// idle: a function that gives its first slot, again and again.
func idle(name string, params, results int) api.Code {
	as := make([]int, results)
	return api.Code{Name: name, Params: params, Results: results, Slots: params + 1, Blocks: [][]api.Instr{{back(as...)}}}
}

func wantCheck(t *testing.T, what any, p api.Program, want api.Errno) {
	t.Helper()
	if got := vm.Check(p); got != want {
		t.Errorf("%v: %v, want %v", what, got, want)
	}
	if r, errno := vm.Run(p, len(p.Data), 0); want != api.OK && (errno != want || r.End != 0 || len(r.Lines) > 0) {
		t.Errorf("%v: run: %v, %v, want %v", what, r, errno, want)
	}
}

// wantCode: what is answered of a program whose last function is that, behind a first one that does nothing.
func wantCode(t *testing.T, what any, p api.Program, c api.Code, want api.Errno) {
	t.Helper()
	p.Funcs = slices.Concat([]api.Code{idle("first", 0, 0)}, p.Funcs, []api.Code{c})
	wantCheck(t, what, p, want)
}

// wantRun of a program that may be, with plenty of fuel.
func wantRun(t *testing.T, what any, p api.Program, heap int, end int, lines ...string) {
	t.Helper()
	wantSteps(t, what, p, heap, api.MaxFuel, end, lines...)
}

func wantSteps(t *testing.T, what any, p api.Program, heap, fuel int, end int, lines ...string) {
	t.Helper()
	got, errno := vm.Run(p, heap, fuel)
	if errno != api.OK || got.End != end || !slices.Equal(got.Lines, lines) {
		t.Errorf("%v: %q, %d, %v; want %q, %d", what, got.Lines, got.End, errno, lines, end)
	}
}

// repeated: so many times the same.
func repeated[T any](n int, x T) []T {
	l := make([]T, n)
	for i := range l {
		l[i] = x
	}
	return l
}

// die: numbers that look drawn, the same each time.
type die uint64

func (d *die) n(most int) int {
	*d = *d*6364136223846793005 + 1442695040888963407
	return int(uint64(*d>>33) % uint64(most))
}

// one of these.
func one[T any](d *die, l ...T) T { return l[d.n(len(l))] }

func (d *die) list(n, most int) []int {
	l := make([]int, n)
	for i := range l {
		l[i] = d.n(most)
	}
	return l
}

// different numbers below most, so many.
func (d *die) different(n, most int) []int {
	l := []int{}
	for len(l) < n {
		if x := d.n(most); !slices.Contains(l, x) {
			l = append(l, x)
		}
	}
	return l
}
