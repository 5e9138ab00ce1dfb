package ssa_test

import (
	"reflect"
	"slices"
	"strconv"
	"strings"
	"testing"

	"postern/api"
	"postern/ir"
	"postern/ssa"
)

// wantShown: what a first function shows, alone or with others behind it, till it is done: as it is, and as what is made of it.
func wantShown(t *testing.T, what string, c api.Code, said string, others ...api.Code) {
	t.Helper()
	p := api.Program{Funcs: append([]api.Code{c}, others...)}
	want := api.Run{Lines: strings.Fields(said), End: api.Done}
	for name, made := range stages(t, what, p, c) {
		got := ran(with(p, 0, made), 50, 5000)
		if got.End != want.End || !slices.Equal(got.Lines, want.Lines) {
			t.Errorf("%s, %s: %+v; want %+v: %+v", what, name, got, want, made)
		}
	}
}

// stages of code: what it becomes.
func stages(t *testing.T, what string, p api.Program, c api.Code) map[string]api.Code {
	t.Helper()
	x := c
	if ops(c, api.Phi) == 0 {
		x = mustBuild(t, what, p, c)
	}
	o := mustOpt(t, what, p, x)
	return map[string]api.Code{
		"as it is": c, "built": x, "less": o,
		"back": mustBack(t, what, p, x), "back with less": mustBack(t, what, p, o),
	}
}

func TestBuild(t *testing.T) {
	wantShown(t, "no variables", mainOf(0, block(back())), "")
	wantShown(t, "one after the other", mainOf(2, block(set(0, 7), set(1, 2), calc(0, 0, "+", 1), show(0), move(1, 0), calc(0, 0, "*", 1), show(0), show(1), back())), "9 81 9")
	count := mainOf(3,
		block(set(0, 3), set(2, -1), jump(1)),
		block(show(0), calc(0, 0, "+", 2), choose(0, 1, 2)),
		block(show(0), back()),
	)
	wantShown(t, "a loop", count, "3 2 1 0")
	swap := mainOf(5,
		block(set(0, 1), set(1, 2), set(3, 3), set(4, -1), jump(1)),
		block(show(0), show(1), move(2, 0), move(0, 1), move(1, 2), calc(3, 3, "+", 4), choose(3, 1, 2)),
		block(show(0), show(1), back()),
	)
	wantShown(t, "a loop that swaps", swap, "1 2 2 1 1 2 2 1")
}

// TestZeros: what is asked ahead of being set is 0.
func TestZeros(t *testing.T) {
	wantShown(t, "at once", mainOf(2, block(show(1), set(1, 5), show(1), show(0), back())), "0 5 0")
	sum := mainOf(3,
		block(show(0), calc(1, 1, "+", 0), set(2, 1), calc(0, 0, "+", 2), set(2, 4), calc(2, 0, "<", 2), choose(2, 0, 1)),
		block(show(1), back()),
	)
	wantShown(t, "in a loop", sum, "0 1 2 3 6")
	one := mainOf(2, block(choose(0, 1, 2)), block(set(1, 5), jump(2)), block(show(1), back()))
	wantShown(t, "on one of two ways", one, "0")
}

// TestFirstBlockAgain: what leads to the first block leads to it behind a new one.
func TestFirstBlockAgain(t *testing.T) {
	c := mainOf(2, block(show(0), set(1, 1), calc(0, 0, "+", 1), set(1, 3), calc(1, 0, "<", 1), choose(1, 0, 1)), block(back()))
	wantShown(t, "a loop", c, "0 1 2")
	c.Blocks = append(c.Blocks, block(jump(0)))
	wantShown(t, "and one that can't be done", c, "0 1 2")
	c.Blocks[0][len(c.Blocks[0])-1] = jump(1)
	wantShown(t, "that alone", c, "0")
	ever := mainOf(0, block(jump(0)))
	p := api.Program{Funcs: []api.Code{ever}}
	for name, made := range stages(t, "for ever", p, ever) {
		if got := ran(with(p, 0, made), 0, 100); got.End != api.Spent {
			t.Errorf("for ever, %s: %+v", name, got)
		}
	}
}

func TestPlaces(t *testing.T) {
	row := func(n int) api.Code {
		return mainOf(3,
			block(set(0, n), set(1, 10), pick(0, 1, 2, 1, 3)),
			block(set(2, 5), jump(4)), block(set(2, 6), jump(4)), block(set(1, 20), jump(4)),
			block(calc(1, 1, "+", 2), show(1), back()),
		)
	}
	for n, said := range map[int]string{0: "15", 1: "16", 2: "15", 3: "20", 4: "20", -1: "20"} {
		wantShown(t, strconv.Itoa(n), row(n), said)
	}
}

// twoOf: a function that gives its param and that less 1.
var twoOf = api.Code{Name: "two", Params: 1, Results: 2, Vars: 2, Blocks: [][]api.Instr{{set(1, 1), calc(1, 0, "-", 1), back(0, 1)}}}

func TestCalls(t *testing.T) {
	c := mainOf(2,
		block(set(0, 9), invoke("two", []int{1, 0}, 0), show(0), show(1), invoke("two", []int{0, 1}, 0), show(0), show(1), back()),
	)
	wantShown(t, "two results", c, "8 9 8 7", twoOf)
	down := api.Code{Name: "down", Params: 1, Results: 1, Vars: 3, Blocks: [][]api.Instr{
		{choose(0, 1, 2)},
		{show(0), set(1, 1), calc(0, 0, "-", 1), invoke("down", []int{0}, 0), jump(2)},
		{back(0)},
	}}
	c = mainOf(1, block(set(0, 3), invoke("down", []int{0}, 0), show(0), back()))
	p := api.Program{Funcs: []api.Code{c, down}}
	for name, made := range stages(t, "a param", p, down) {
		if got := ran(with(p, 1, made), 0, 1000); !slices.Equal(got.Lines, []string{"3", "2", "1", "0"}) {
			t.Errorf("a param, %s: %+v", name, got)
		}
	}
}

// TestHead: the answer has the function's name, params and results, and nothing that no instruction asks for.
func TestHead(t *testing.T) {
	in := move(3, 0)
	in.N, in.S = 7, "?"
	c := api.Code{Name: "f", Params: 2, Results: 1, Vars: 9, Blocks: [][]api.Instr{{in, back(3)}}}
	x := mustBuild(t, "f", api.Program{}, c)
	want := api.Code{Name: "f", Params: 2, Results: 1, Vars: 3, Blocks: [][]api.Instr{{move(2, 0), back(2)}}}
	if z := mustBack(t, "f", api.Program{}, x); !reflect.DeepEqual(plain(x), plain(want)) || !reflect.DeepEqual(plain(z), plain(want)) {
		t.Errorf("%+v, %+v; want %+v", x, z, want)
	}
}

// plain: lists without elements are nil.
func plain(c api.Code) api.Code {
	c = copied(c)
	for _, b := range c.Blocks {
		for i := range b {
			for _, l := range []*[]int{&b[i].Ds, &b[i].As, &b[i].To} {
				if len(*l) == 0 {
					*l = nil
				}
			}
		}
	}
	return c
}

func TestBuildRefuses(t *testing.T) {
	for what, c := range map[string]api.Code{
		"no blocks":       {},
		"an empty block":  mainOf(1, nil),
		"a Phi":           meeting(phi(6, 4, 5)),
		"no variable":     mainOf(1, block(show(1), back())),
		"no function":     mainOf(1, block(invoke("f", nil), back())),
		"slots":           {Slots: 1, Blocks: [][]api.Instr{{back()}}},
		"too many blocks": mainOf(0, repeated(api.MaxBlocks+1, block(back()))...),
		"too many words":  {Params: api.MaxWords + 1, Vars: api.MaxWords + 1, Blocks: [][]api.Instr{{back()}}},
	} {
		want := ir.CheckCode(api.Program{}, c)
		if want == api.OK {
			t.Fatalf("%s is OK", what)
		}
		wantRefused(t, what, ssa.Build, api.Program{}, c, want)
	}
}

// dense: as many ways as may be between 20 blocks, with 40 variables that are needed everywhere and 100 instructions, some of which set 16 of them.
func dense(d *die, kind int) api.Program {
	const blocks, vars = 20, 40
	all := make([]int, vars)
	for v := range all {
		all[v] = v
	}
	c := mainOf(vars, make([][]api.Instr, blocks)...)
	var to []int
	for b := kind % 2; b < blocks; b++ { // some lead to the first one, too
		to = append(to, b)
	}
	for n := range 79 {
		v := func() int { return d.n(vars) }
		first := d.n(vars - 16)
		in := one(d, move(v(), v()), set(v(), d.n(3)), calc(v(), v(), "+", v()), calc(v(), v(), "/", v()))
		if kind < 4 {
			in = one(d, move(v(), v()), move(v(), v()), set(v(), d.n(3)))
		}
		if kind > 7 {
			in = invoke("many", all[first:first+16])
		}
		c.Blocks[n%blocks] = append(c.Blocks[n%blocks], in)
	}
	c.Blocks[blocks-1] = append(c.Blocks[blocks-1], invoke("all", nil, all...))
	for b := range c.Blocks {
		c.Blocks[b] = append(c.Blocks[b], pick(d.n(vars), to...))
	}
	return api.Program{Funcs: append([]api.Code{c, {Name: "all", Params: vars}}, callees.Funcs...)}
}

// TestDense: of code with 20 blocks, 40 variables and 100 instructions ErrSize is not answered, nor of what is made of it.
func TestDense(t *testing.T) {
	d := die(4)
	for kind := range 12 {
		p := dense(&d, kind)
		c := p.Funcs[0]
		if instrs(c) != 100 || len(c.Blocks) != 20 || c.Vars != 40 {
			t.Fatalf("%d blocks, %d variables, %d instructions", len(c.Blocks), c.Vars, instrs(c))
		}
		x := mustBuild(t, kind, p, c)
		if z := mustBack(t, kind, p, x); instrs(z) > instrs(c)+c.Vars+1 {
			t.Errorf("kind %d: %d instructions come back", kind, instrs(z))
		}
		mustBack(t, kind, p, mustOpt(t, kind, p, x))
	}
}

// row of instructions, an end behind them.
func row(n int, in func(i int) api.Instr, end api.Instr) []api.Instr {
	var l []api.Instr
	for i := range n {
		l = append(l, in(i))
	}
	return append(l, end)
}

// TestBuildLimits: up to the limits all is built; what would pass them is refused.
func TestBuildLimits(t *testing.T) {
	var p api.Program
	setting := func(n int) api.Code {
		return mainOf(2, row(n, func(int) api.Instr { return set(0, 7) }, back()))
	}
	mustBuild(t, "variables", p, setting(api.MaxVars))
	wantRefused(t, "variables", ssa.Build, p, setting(api.MaxVars+1), api.ErrSize)

	showing := func(n, v int) api.Code {
		return api.Code{Params: 1, Vars: 2, Blocks: [][]api.Instr{row(n, func(int) api.Instr { return show(v) }, back())}}
	}
	mustBuild(t, "instructions", p, showing(api.MaxInstrs-1, 0))
	mustBuild(t, "a zero, and instructions", p, showing(api.MaxInstrs-2, 1))
	wantRefused(t, "a zero, and instructions", ssa.Build, p, showing(api.MaxInstrs-1, 1), api.ErrSize)

	looping := func(blocks, to int) api.Code {
		c := mainOf(0, repeated(blocks, block(jump(0)))...)
		for b := range c.Blocks {
			c.Blocks[b] = block(jump(b + 1))
		}
		c.Blocks[blocks-1] = block(jump(to))
		return c
	}
	long := looping(api.MaxBlocks, 1)
	mustBuild(t, "blocks", p, long)
	for b := range long.Blocks {
		long.Blocks[b] = append(block(set(0, b)), long.Blocks[b]...)
	}
	long.Vars = 1
	mustBuild(t, "blocks of two", p, long)
	mustBuild(t, "blocks, and a new one", p, looping(api.MaxBlocks-1, 0))
	wantRefused(t, "blocks, and a new one", ssa.Build, p, looping(api.MaxBlocks, 0), api.ErrSize)
}
