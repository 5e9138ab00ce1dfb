package alloc_test

import (
	"reflect"
	"slices"
	"testing"

	"postern/alloc"
	"postern/api"
	"postern/ir"
	"postern/vm"
)

// Short ways to write instructions.

func set(d, n int) api.Instr { return api.Instr{Op: api.Const, Ds: []int{d}, N: n} }

func move(d, a int) api.Instr { return api.Instr{Op: api.Move, Ds: []int{d}, As: []int{a}} }

func calc(d, a int, op string, b int) api.Instr {
	return api.Instr{Op: api.Math, S: op, Ds: []int{d}, As: []int{a, b}}
}

func load(d, a, n int) api.Instr {
	return api.Instr{Op: api.Load, Ds: []int{d}, As: []int{a}, N: n}
}

func store(a, n, value int) api.Instr {
	return api.Instr{Op: api.Store, As: []int{a, value}, N: n}
}

func room(d, a int) api.Instr { return api.Instr{Op: api.Alloc, Ds: []int{d}, As: []int{a}} }

func invoke(name string, ds []int, as ...int) api.Instr {
	return api.Instr{Op: api.Invoke, S: name, Ds: ds, As: as}
}

func show(a int) api.Instr { return showAs("int", a) }

func showAs(kind string, as ...int) api.Instr { return api.Instr{Op: api.Show, S: kind, As: as} }

func jump(to int) api.Instr { return api.Instr{Op: api.Jump, To: []int{to}} }

func choose(a, yes, no int) api.Instr {
	return api.Instr{Op: api.Choose, As: []int{a}, To: []int{yes, no}}
}

func pick(a int, to ...int) api.Instr { return api.Instr{Op: api.Pick, As: []int{a}, To: to} }

func back(as ...int) api.Instr { return api.Instr{Op: api.Back, As: as} }

func fail(n int) api.Instr { return api.Instr{Op: api.Fail, N: n} }

// block of instructions.
func block(ins ...api.Instr) []api.Instr { return ins }

// mainOf: a first function, of these blocks.
func mainOf(vars int, blocks ...[]api.Instr) api.Code {
	return api.Code{Name: "main", Vars: vars, Blocks: blocks}
}

// function that others may call.
func function(name string, params, results, vars int, blocks ...[]api.Instr) api.Code {
	return api.Code{Name: name, Params: params, Results: results, Vars: vars, Blocks: blocks}
}

// program of functions.
func program(fs ...api.Code) api.Program { return api.Program{Funcs: fs} }

// upTo a number: those from 0 on.
func upTo(n int) []int {
	l := make([]int, n)
	for i := range l {
		l[i] = i
	}
	return l
}

// repeated: so many times the same.
func repeated[T any](n int, x T) []T {
	l := make([]T, n)
	for i := range l {
		l[i] = x
	}
	return l
}

// instrs: how many there are.
func instrs(c api.Code) int {
	n := 0
	for _, b := range c.Blocks {
		n += len(b)
	}
	return n
}

// ops: how many instructions have one of these operators.
func ops(c api.Code, of ...int) int {
	n := 0
	for _, b := range c.Blocks {
		for _, in := range b {
			if slices.Contains(of, in.Op) {
				n++
			}
		}
	}
	return n
}

// mustAlloc: machine code of code that may be; it is of the same function, and has no more than it may.
func mustAlloc(t *testing.T, what any, p api.Program, c api.Code) api.Code {
	t.Helper()
	m, errno := alloc.Alloc(p, c)
	if errno != api.OK {
		t.Fatalf("%v: refused: %v: %+v", what, errno, c)
	}
	if m.Name != c.Name || m.Params != c.Params || m.Results != c.Results {
		t.Fatalf("%v: another function: %+v of %+v", what, m, c)
	}
	if m.Vars > api.Regs || m.Slots > max(c.Vars, c.Params) || instrs(m) > 4*instrs(c)+c.Params {
		t.Fatalf("%v: %d registers, %d slots, %d instructions of %d", what, m.Vars, m.Slots, instrs(m), instrs(c))
	}
	return m
}

// machine code of all functions of a program, and that may be.
func machine(t *testing.T, what any, p api.Program) api.Program {
	t.Helper()
	m := api.Program{Data: p.Data}
	for _, c := range p.Funcs {
		m.Funcs = append(m.Funcs, mustAlloc(t, what, p, c))
	}
	if errno := vm.Check(m); errno != api.OK {
		t.Fatalf("%v: the machine code is refused: %v: %+v of %+v", what, errno, m, p)
	}
	return m
}

// One instruction may become so many steps, if it is a call: registers that are stored, itself, registers that are loaded.
const mostSteps = 2*api.Regs + 1

// ran: what a program does, and what its machine code does, with fuel for all that it may need.
func ran(t *testing.T, what any, p api.Program, heap, fuel int) (api.Run, api.Run) {
	t.Helper()
	a, errno := ir.Run(p, heap, fuel)
	if errno != api.OK {
		t.Fatalf("%v: the code is refused: %v: %+v", what, errno, p)
	}
	b, errno := vm.Run(machine(t, what, p), heap, mostSteps*fuel)
	if errno != api.OK {
		t.Fatalf("%v: the machine code is refused: %v", what, errno)
	}
	return a, b
}

// begins: what the one prints is how what the other one prints begins.
func begins(a, b api.Run) bool {
	return len(a.Lines) <= len(b.Lines) && slices.Equal(a.Lines, b.Lines[:len(a.Lines)])
}

// wantSame: the machine code of a program does the same as the program.
func wantSame(t *testing.T, what any, p api.Program, heap, fuel int) api.Run {
	t.Helper()
	a, b := ran(t, what, p, heap, fuel)
	same := a.End == b.End && slices.Equal(a.Lines, b.Lines)
	if a.End == api.Spent {
		same = begins(a, b)
	}
	if !same {
		t.Fatalf("%v: %+v; machine code %+v: %+v, %+v", what, a, b, p, machine(t, what, p))
	}
	return a
}

// wantRun: what the machine code of a program prints, and how it ends.
func wantRun(t *testing.T, what any, p api.Program, end int, lines ...string) {
	t.Helper()
	const heap, fuel = 100, 50000
	if r := wantSame(t, what, p, heap, fuel); r.End != end || !slices.Equal(r.Lines, lines) {
		t.Errorf("%v: %q, %d; want %q, %d", what, r.Lines, r.End, lines, end)
	}
}

// wantRefused: code that may not be, in a program.
func wantRefused(t *testing.T, what any, p api.Program, c api.Code, want api.Errno) {
	t.Helper()
	m, errno := alloc.Alloc(p, c)
	if errno != want || want != api.OK && !reflect.DeepEqual(m, api.Code{}) {
		t.Errorf("%v: %+v, %v; want %v", what, m, errno, want)
	}
}

// die: numbers that look drawn, the same each time.
type die uint64

func (d *die) n(most int) int {
	*d = *d*6364136223846793005 + 1442695040888963407
	return int(uint64(*d>>33) % uint64(most))
}

// one of these.
func one[T any](d *die, l ...T) T { return l[d.n(len(l))] }

func (d *die) list(n, most int) []int {
	l := make([]int, n)
	for i := range l {
		l[i] = d.n(most)
	}
	return l
}

// different: so many different numbers.
func (d *die) different(n, most int) []int {
	l := upTo(most)
	for i := range n {
		j := i + d.n(most-i)
		l[i], l[j] = l[j], l[i]
	}
	return l[:n]
}
