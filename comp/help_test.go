package comp_test

import (
	"reflect"
	"slices"
	"strconv"
	"testing"

	"postern/api"
	"postern/comp"
	"postern/ir"
	"postern/vm"
)

// Short ways to write instructions.

func set(d, n int) api.Instr { return api.Instr{Op: api.Const, Ds: []int{d}, N: n} }

func move(d, a int) api.Instr { return api.Instr{Op: api.Move, Ds: []int{d}, As: []int{a}} }

func calc(d, a int, op string, b int) api.Instr {
	return api.Instr{Op: api.Math, S: op, Ds: []int{d}, As: []int{a, b}}
}

func load(d, a, n int) api.Instr {
	return api.Instr{Op: api.Load, Ds: []int{d}, As: []int{a}, N: n}
}

func store(a, n, value int) api.Instr {
	return api.Instr{Op: api.Store, As: []int{a, value}, N: n}
}

func room(d, a int) api.Instr { return api.Instr{Op: api.Alloc, Ds: []int{d}, As: []int{a}} }

func invoke(name string, ds []int, as ...int) api.Instr {
	return api.Instr{Op: api.Invoke, S: name, Ds: ds, As: as}
}

func show(a int) api.Instr { return showAs("int", a) }

func showAs(kind string, as ...int) api.Instr { return api.Instr{Op: api.Show, S: kind, As: as} }

func jump(to int) api.Instr { return api.Instr{Op: api.Jump, To: []int{to}} }

func choose(a, yes, no int) api.Instr {
	return api.Instr{Op: api.Choose, As: []int{a}, To: []int{yes, no}}
}

func pick(a int, to ...int) api.Instr { return api.Instr{Op: api.Pick, As: []int{a}, To: to} }

func back(as ...int) api.Instr { return api.Instr{Op: api.Back, As: as} }

func fail(n int) api.Instr { return api.Instr{Op: api.Fail, N: n} }

// block of instructions.
func block(ins ...api.Instr) []api.Instr { return ins }

// mainOf: a first function, of these blocks.
func mainOf(vars int, blocks ...[]api.Instr) api.Code {
	return api.Code{Name: "main", Vars: vars, Blocks: blocks}
}

// function that others may call.
func function(name string, params, results, vars int, blocks ...[]api.Instr) api.Code {
	return api.Code{Name: name, Params: params, Results: results, Vars: vars, Blocks: blocks}
}

// program of functions.
func program(fs ...api.Code) api.Program { return api.Program{Funcs: fs} }

// upTo a number: those from 0 on.
func upTo(n int) []int {
	l := make([]int, n)
	for i := range l {
		l[i] = i
	}
	return l
}

// repeated: so many times the same.
func repeated[T any](n int, x T) []T {
	l := make([]T, n)
	for i := range l {
		l[i] = x
	}
	return l
}

func itoa(n int) string { return strconv.Itoa(n) }

// instrs: how many there are.
func instrs(c api.Code) int {
	n := 0
	for _, b := range c.Blocks {
		n += len(b)
	}
	return n
}

// ways to make machine code: with opt, and without.
var ways = []bool{false, true}

// mustMachine: machine code of a program that may be: it may be, too, and has the same Data and all functions.
func mustMachine(t *testing.T, what any, p api.Program, opt bool) api.Program {
	t.Helper()
	m, errno := comp.Machine(p, opt)
	if errno != api.OK {
		t.Fatalf("%v, %v: refused: %v: %+v", what, opt, errno, p)
	}
	wantWhole(t, what, p, m)
	return m
}

// wantWhole: machine code is of all functions of a program.
func wantWhole(t *testing.T, what any, p, m api.Program) {
	t.Helper()
	if errno := vm.Check(m); errno != api.OK {
		t.Fatalf("%v: the machine code is refused: %v: %+v", what, errno, m)
	}
	if !slices.Equal(m.Data, p.Data) || len(m.Funcs) != len(p.Funcs) {
		t.Fatalf("%v: %d functions, %v; want %d, %v", what, len(m.Funcs), m.Data, len(p.Funcs), p.Data)
	}
	for i, c := range p.Funcs {
		if x := m.Funcs[i]; x.Name != c.Name || x.Params != c.Params || x.Results != c.Results {
			t.Fatalf("%v: its function %d is another one: %+v", what, i, x)
		}
	}
}

// begins: what the one prints is how what the other one prints begins.
func begins(a, b api.Run) bool {
	return len(a.Lines) <= len(b.Lines) && slices.Equal(a.Lines, b.Lines[:len(a.Lines)])
}

// agree: both runs print the same, and end so, unless one is Spent.
func agree(a, b api.Run) bool {
	switch {
	case a.End == api.Spent && begins(a, b), b.End == api.Spent && begins(b, a):
		return true
	}
	return a.End == b.End && slices.Equal(a.Lines, b.Lines)
}

// One instruction may become so many steps, if it is a call: registers that are stored, itself, registers that are loaded.
const mostSteps = 2*api.Regs + 1

// wantSame: machine code does the same as the program that it was made of: with as little fuel as that, too, and with more of it to the end.
func wantSame(t *testing.T, what any, p, m api.Program, heap, fuel int) api.Run {
	t.Helper()
	a, errno := ir.Run(p, heap, fuel)
	if errno != api.OK {
		t.Fatalf("%v: the code is refused: %v: %+v", what, errno, p)
	}
	plenty := min(mostSteps*fuel, 10*api.MaxFuel)
	for _, f := range []int{fuel / 2, fuel, plenty} {
		b, errno := vm.Run(m, heap, f)
		if errno != api.OK || !agree(a, b) {
			t.Fatalf("%v: %+v, %v; want %+v: %+v of %+v", what, b, errno, a, m, p)
		}
		if f == plenty && b.End == api.Spent && a.End != api.Spent {
			t.Fatalf("%v: it does not end by %d: %+v of %+v", what, a.End, m, p)
		}
	}
	return a
}

// wantBoth: so does all machine code of a program.
func wantBoth(t *testing.T, what any, p api.Program, heap, fuel int) (r api.Run) {
	t.Helper()
	for _, opt := range ways {
		r = wantSame(t, what, p, mustMachine(t, what, p, opt), heap, fuel)
	}
	return r
}

// wantRefused: a program that may not be.
func wantRefused(t *testing.T, what any, p api.Program) {
	t.Helper()
	for _, opt := range ways {
		m, errno := comp.Machine(p, opt)
		if errno == api.OK || !reflect.DeepEqual(m, api.Program{}) {
			t.Errorf("%v, %v: %+v, %v", what, opt, m, errno)
		}
	}
}

// die: numbers that look drawn, the same each time.
type die uint64

func (d *die) n(most int) int {
	*d = *d*6364136223846793005 + 1442695040888963407
	return int(uint64(*d>>33) % uint64(most))
}

// one of these.
func one[T any](d *die, l ...T) T { return l[d.n(len(l))] }

func (d *die) list(n, most int) []int {
	l := make([]int, n)
	for i := range l {
		l[i] = d.n(most)
	}
	return l
}

// different: so many different numbers.
func (d *die) different(n, most int) []int {
	l := upTo(most)
	for i := range n {
		j := i + d.n(most-i)
		l[i], l[j] = l[j], l[i]
	}
	return l[:n]
}
