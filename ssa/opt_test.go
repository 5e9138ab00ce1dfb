package ssa_test

import (
	"slices"
	"testing"

	"postern/api"
	"postern/ssa"
)

// wantLeft: so many instructions of some operators are left of code, and no others.
func wantLeft(t *testing.T, what string, c api.Code, left map[int]int) {
	t.Helper()
	p := api.Program{Funcs: []api.Code{c, twoOf}}
	x := c
	if ops(c, api.Phi) == 0 {
		x = mustBuild(t, what, p, c)
	}
	made := mustOpt(t, what, p, x)
	all := 0
	for op, n := range left {
		all += n
		if ops(made, op) != n {
			t.Errorf("%s: %d of %d; want %d: %+v", what, ops(made, op), op, n, made)
		}
	}
	if instrs(made) != all {
		t.Errorf("%s: %d instructions; want %d: %+v", what, instrs(made), all, made)
	}
	wantSame(t, new(die), what, with(p, 0, x), with(p, 0, made))
}

// TestNeedless: what nothing needs goes.
func TestNeedless(t *testing.T) {
	wantLeft(t, "numbers", mainOf(4, block(set(0, 1), move(1, 0), calc(2, 1, "+", 0), calc(3, 2, "<", 1), back())), map[int]int{api.Back: 1})
	wantLeft(t, "quotients of what is not 0", mainOf(3, block(alloc(0, 0), set(1, 3), calc(2, 0, "/", 1), calc(2, 0, "%", 1), back())), map[int]int{api.Const: 1, api.Alloc: 1, api.Back: 1})
	wantLeft(t, "what is left by 1", mainOf(3, block(set(1, 1), alloc(0, 1), calc(2, 0, "%", 1), back())), map[int]int{api.Const: 1, api.Alloc: 1, api.Back: 1})
	wantLeft(t, "a round that nothing asks", mainOf(4,
		block(set(0, 9), set(1, 1), jump(1)),
		block(calc(0, 0, "-", 1), calc(2, 2, "+", 0), move(3, 2), choose(0, 1, 2)),
		block(back()),
	), map[int]int{api.Const: 2, api.Jump: 1, api.Phi: 1, api.Math: 1, api.Choose: 1, api.Back: 1})
}

// TestNeeded: a run may end by what sets a variable that nothing asks, or do more.
func TestNeeded(t *testing.T) {
	wantLeft(t, "load", mainOf(2, block(load(1, 0, 0), back())), map[int]int{api.Const: 1, api.Load: 1, api.Back: 1})
	wantLeft(t, "alloc", mainOf(2, block(alloc(1, 0), back())), map[int]int{api.Const: 1, api.Alloc: 1, api.Back: 1})
	wantLeft(t, "store", mainOf(2, block(store(0, 0, 0), back())), map[int]int{api.Const: 1, api.Store: 1, api.Back: 1})
	wantLeft(t, "call", mainOf(2, block(invoke("two", []int{0, 1}, 0), back())), map[int]int{api.Const: 1, api.Invoke: 1, api.Back: 1})
	wantLeft(t, "show", mainOf(2, block(show(0), back())), map[int]int{api.Const: 1, api.Show: 1, api.Back: 1})
	for _, op := range []string{"/", "%"} {
		wantLeft(t, op, mainOf(2, block(alloc(1, 0), load(0, 1, 0), calc(0, 1, op, 0), back())), map[int]int{api.Const: 1, api.Alloc: 1, api.Load: 1, api.Math: 1, api.Back: 1})
	}
}

// TestKnown: what is a number on all ways is no more worked out.
func TestKnown(t *testing.T) {
	shown := map[int]int{api.Const: 1, api.Show: 1, api.Back: 1}
	wantLeft(t, "numbers", mainOf(4, block(set(0, 6), set(1, 7), calc(2, 0, "*", 1), move(3, 2), show(3), back())), shown)
	wantLeft(t, "one way", mainOf(3, block(set(0, 6), choose(0, 1, 2)), block(set(1, 4), jump(3)), block(load(1, 0, 0), jump(3)), block(show(1), back())), shown)
	wantLeft(t, "one place", mainOf(3, block(set(0, 1), pick(0, 2, 1, 2)), block(set(1, 4), jump(3)), block(load(1, 0, 0), jump(3)), block(show(1), back())), shown)
	wantLeft(t, "a place that is not in the row", mainOf(3, block(set(0, -1), pick(0, 2, 2, 1)), block(set(1, 4), jump(3)), block(load(1, 0, 0), jump(3)), block(show(1), back())), shown)
	wantLeft(t, "the same on both ways", mainOf(3,
		block(set(0, 4), alloc(1, 0), load(1, 1, 0), choose(1, 1, 2)),
		block(set(2, 4), jump(3)), block(set(2, 2), calc(2, 2, "+", 2), jump(3)),
		block(show(2), back()),
	), map[int]int{api.Const: 1, api.Alloc: 1, api.Load: 1, api.Show: 1, api.Back: 1})
	wantLeft(t, "round and round, as one way is never gone", mainOf(4,
		block(set(0, 5), load(3, 1, 0), jump(1)),
		block(set(1, 5), calc(1, 0, "==", 1), choose(1, 2, 3)),
		block(show(0), choose(3, 1, 4)),
		block(set(0, 6), jump(1)),
		block(back()),
	), map[int]int{api.Const: 2, api.Load: 1, api.Jump: 1, api.Show: 1, api.Choose: 1, api.Back: 1})
}

// TestDividedByZero: a run that surely ends goes no further.
func TestDividedByZero(t *testing.T) {
	for _, op := range []string{"/", "%"} {
		c := mainOf(3, block(set(0, 7), show(0), calc(1, 0, op, 2), show(1), choose(1, 1, 2)), block(show(0), back()), block(back()))
		wantLeft(t, op, c, map[int]int{api.Const: 1, api.Show: 1, api.Fail: 1})
		ways := mainOf(4,
			block(load(0, 1, 0), choose(0, 1, 2)),
			block(set(2, 6), calc(0, 0, op, 1), jump(3)), block(set(2, 5), jump(3)),
			block(show(2), back()),
		)
		wantLeft(t, op, ways, map[int]int{api.Const: 2, api.Load: 1, api.Choose: 1, api.Fail: 1, api.Show: 1, api.Back: 1})
	}
}

// TestSames: what was made once is not made again, where that stood on all ways.
func TestSames(t *testing.T) {
	read := []api.Instr{load(0, 3, 0), load(1, 3, 1)}
	ins := func(more ...api.Instr) api.Code {
		return mainOf(4, append(slices.Concat(read, more), back()))
	}
	left := func(maths, shows int) map[int]int {
		return map[int]int{api.Const: 1, api.Load: 2, api.Math: maths, api.Show: shows, api.Back: 1}
	}
	wantLeft(t, "twice", ins(calc(2, 0, "-", 1), show(2), calc(2, 0, "-", 1), show(2)), left(1, 2))
	wantLeft(t, "turned", ins(calc(2, 0, "*", 1), show(2), calc(2, 1, "*", 0), show(2)), left(1, 2))
	wantLeft(t, "not the same turned", ins(calc(2, 0, "-", 1), show(2), calc(2, 1, "-", 0), show(2)), left(2, 2))
	wantLeft(t, "compared the other way", ins(calc(2, 0, "<", 1), show(2), calc(2, 1, ">", 0), show(2)), left(1, 2))
	wantLeft(t, "compared the other way, or the same", ins(calc(2, 0, ">=", 1), show(2), calc(2, 1, "<=", 0), show(2)), left(1, 2))
	wantLeft(t, "loads", ins(load(0, 3, 0), load(0, 3, 0)), map[int]int{api.Const: 1, api.Load: 4, api.Back: 1})
	wantLeft(t, "a division", ins(calc(2, 0, "/", 1), calc(2, 0, "/", 1)), left(1, 0))
	ways := mainOf(3,
		block(load(0, 2, 0), choose(0, 1, 2)),
		block(calc(1, 0, "+", 0), show(1), jump(3)), block(calc(1, 0, "+", 0), show(1), jump(3)),
		block(calc(1, 0, "+", 0), show(1), back()),
	)
	wantLeft(t, "on several ways", ways, map[int]int{api.Const: 1, api.Load: 1, api.Choose: 1, api.Math: 3, api.Show: 3, api.Jump: 2, api.Back: 1})
}

// TestKept: operators that hand a side on.
func TestKept(t *testing.T) {
	for _, c := range []struct {
		in   api.Instr
		goes bool
	}{
		{calc(3, 0, "+", 1), true}, {calc(3, 1, "+", 0), true}, {calc(3, 0, "-", 1), true}, {calc(3, 1, "-", 0), false},
		{calc(3, 0, "*", 2), true}, {calc(3, 2, "*", 0), true}, {calc(3, 0, "/", 2), true}, {calc(3, 2, "/", 0), false},
		{calc(3, 0, "%", 2), false}, {calc(3, 0, "+", 2), false}, {calc(3, 0, "-", 2), false}, {calc(3, 0, "*", 1), false},
	} {
		code := mainOf(4, block(load(0, 1, 0), set(2, 1), c.in, show(3), back()))
		p := api.Program{Funcs: []api.Code{code}, Data: []int{7}}
		made := mustOpt(t, "kept", p, mustBuild(t, "kept", p, code))
		if goes := ops(made, api.Math) == 0; goes != c.goes {
			t.Errorf("%+v: %+v", c.in, made)
		}
		wantSame(t, new(die), c.in, p, with(p, 0, made))
	}
}

// TestDecided: a Choose that asks how a variable compares with 0.
func TestDecided(t *testing.T) {
	for _, n := range []int{0, 1, -1} {
		for _, ask := range []api.Instr{calc(2, 0, "==", 1), calc(2, 1, "==", 0), calc(2, 0, "!=", 1), calc(2, 1, "!=", 0)} {
			code := mainOf(3, block(load(0, 1, 0), ask, calc(2, 2, "==", 1), choose(2, 1, 2)), block(show(1), back()), block(back()))
			p := api.Program{Funcs: []api.Code{code}, Data: []int{n}}
			made := mustOpt(t, "decided", p, mustBuild(t, "decided", p, code))
			wantSame(t, new(die), ask, p, with(p, 0, made))
			if ops(made, api.Math) > 0 {
				t.Errorf("%+v: %+v", ask, made)
			}
		}
	}
}

// TestBlocksGo: those that only lead on, and those that stand behind one alone.
func TestBlocksGo(t *testing.T) {
	wantLeft(t, "a row", mainOf(1, block(jump(2)), block(back()), block(show(0), jump(3)), block(jump(1))), map[int]int{api.Const: 1, api.Show: 1, api.Back: 1})
	wantLeft(t, "both ways are one", mainOf(2, block(load(0, 1, 0), choose(0, 1, 2)), block(jump(3)), block(jump(3)), block(back())), map[int]int{api.Const: 1, api.Load: 1, api.Back: 1})
	wantLeft(t, "for ever", mainOf(1, block(show(0), jump(1)), block(jump(2)), block(jump(1))), map[int]int{api.Const: 1, api.Show: 1, api.Jump: 2})
	wantLeft(t, "ways that a Phi tells", mainOf(3,
		block(load(0, 1, 0), set(2, 5), choose(0, 1, 2)), block(jump(3)), block(set(2, 6), jump(3)), block(show(2), back()),
	), map[int]int{api.Const: 3, api.Load: 1, api.Choose: 1, api.Jump: 1, api.Phi: 1, api.Show: 1, api.Back: 1})
}

// TestVars: there are no more variables than are set.
func TestVars(t *testing.T) {
	c := api.Code{Name: "f", Params: 2, Vars: 20, Blocks: [][]api.Instr{{set(17, 4), move(9, 17), calc(12, 9, "-", 1), set(15, 8), show(12), back()}}}
	if made := mustOpt(t, "f", api.Program{}, c); made.Vars != 4 {
		t.Errorf("%+v", made)
	}
	if made := mustBack(t, "f", api.Program{}, c); made.Vars != 6 {
		t.Errorf("%+v", made)
	}
}

// TestWhateverCalled: a function does the same with all arguments.
func TestWhateverCalled(t *testing.T) {
	f := api.Code{Name: "f", Params: 2, Results: 2, Vars: 5, Blocks: [][]api.Instr{
		{set(2, 0), set(3, 1), calc(4, 0, "==", 2), choose(4, 2, 1)},
		{calc(2, 2, "+", 1), calc(0, 0, "-", 3), calc(4, 0, ">", 3), choose(4, 1, 2)},
		{calc(4, 2, "/", 1), pick(1, 2, 3, 3)},
		{back(2, 4)},
	}}
	f.Blocks[2][1] = pick(1, 3, 3, 3)
	for a := -2; a < 6; a++ {
		for b := -2; b < 3; b++ {
			c := mainOf(2, block(set(0, a), set(1, b), invoke("f", []int{1, 0}, 0, 1), show(0), show(1), back()))
			p := api.Program{Funcs: []api.Code{c, f}}
			x := mustBuild(t, a, p, f)
			wantSame(t, new(die), a, p, with(p, 1, mustOpt(t, a, p, x)))
		}
	}
}

// TestOptLimits: Opt never answers ErrSize, as much as there may be.
func TestOptLimits(t *testing.T) {
	var p api.Program
	full := mainOf(api.MaxVars,
		row(api.MaxVars-4, func(i int) api.Instr { return load(i, max(i-1, 0), i) }, choose(7, 1, 2)),
		block(set(api.MaxVars-4, 5), show(api.MaxVars-4), jump(3)),
		block(set(api.MaxVars-3, 5), show(api.MaxVars-3), jump(3)),
		nil,
	)
	full.Blocks[0][0] = set(0, 5)
	full.Blocks[0][1].As[0] = 0
	used := instrs(full)
	full.Blocks[3] = append(
		block(phi(api.MaxVars-2, api.MaxVars-4, api.MaxVars-3), phi(api.MaxVars-1, 7, 9)),
		row(api.MaxInstrs-used-1, func(i int) api.Instr { return show(api.MaxVars - 2 + i%2) }, back())...,
	)
	if errno := ssa.Check(p, full); errno != api.OK {
		t.Fatal(errno)
	}
	mustOpt(t, "full", p, full)

	phis := mainOf(api.MaxVars, row(1, func(int) api.Instr { return set(0, 0) }, pick(0, 1, 2, 3)),
		block(set(1, 5), show(1), jump(3)), block(set(2, 5), show(2), jump(3)), nil)
	for v := 3; v < api.MaxVars; v++ {
		phis.Blocks[3] = append(phis.Blocks[3], phi(v, 0, 1, 2))
	}
	phis.Blocks[3] = append(phis.Blocks[3], row(api.MaxInstrs-9, func(i int) api.Instr { return show(i % api.MaxVars) }, back())...)
	for i := range phis.Blocks[3] {
		if in := &phis.Blocks[3][i]; in.Op == api.Show && (in.As[0] == 1 || in.As[0] == 2) {
			in.As[0] = 0
		}
	}
	mustOpt(t, "Phis", p, phis)
}

// TestNoRoom: where Phis would become Consts for which there is no room, all may stay as it is.
func TestNoRoom(t *testing.T) {
	var p api.Program
	c := mainOf(6,
		block(set(0, 0), load(1, 0, 0), choose(1, 1, 2)),
		block(set(2, 5), show(2), jump(3)), block(set(3, 5), show(3), jump(3)),
		append(block(phi(4, 2, 3)), row(api.MaxInstrs-10, func(int) api.Instr { return show(4) }, back())...),
	)
	if got := instrs(c) - 1; got != api.MaxInstrs {
		t.Fatalf("%d instructions", got)
	}
	mustOpt(t, "no room", p, c)
}
