package ssa_test

import (
	"slices"
	"strings"
	"testing"

	"postern/api"
	"postern/ssa"
)

// rounds: a loop that is done four times; its first block has these Phis, of which the first arguments are as they begin (5 to 8 are 50 to 80), then it shows some.
func rounds(phis []api.Instr, shows ...int) api.Code {
	loop := append([]api.Instr{phi(0, 2, 1)}, phis...)
	for _, v := range shows {
		loop = append(loop, show(v))
	}
	return mainOf(30,
		block(set(2, 4), set(3, 1), set(5, 50), set(6, 60), set(7, 70), set(8, 80), jump(1)),
		append(loop, calc(1, 0, "-", 3), choose(1, 1, 2)),
		block(back()),
	)
}

func TestPhisOfALoop(t *testing.T) {
	wantShown(t, "count", rounds(nil, 0), "4 3 2 1")
	wantShown(t, "itself", rounds([]api.Instr{phi(10, 5, 10)}, 10), "50 50 50 50")
	wantShown(t, "two that ask each other", rounds([]api.Instr{phi(10, 5, 11), phi(11, 6, 10)}, 10, 11), "50 60 60 50 50 60 60 50")
	wantShown(t, "three in a round", rounds([]api.Instr{phi(10, 5, 11), phi(11, 6, 12), phi(12, 7, 10)}, 10, 11, 12), "50 60 70 60 70 50 70 50 60 50 60 70")
	wantShown(t, "two rounds", rounds([]api.Instr{phi(10, 5, 11), phi(12, 7, 13), phi(11, 6, 10), phi(13, 8, 12)}, 10, 12), "50 70 60 80 50 70 60 80")
	wantShown(t, "a row", rounds([]api.Instr{phi(10, 5, 11), phi(11, 6, 12), phi(12, 7, 0)}, 10, 11, 12), "50 60 70 60 70 4 70 4 3 4 3 2")
	wantShown(t, "a row, the other way", rounds([]api.Instr{phi(12, 7, 0), phi(11, 6, 12), phi(10, 5, 11)}, 10, 11, 12), "50 60 70 60 70 4 70 4 3 4 3 2")
	wantShown(t, "a round, and a row from it", rounds([]api.Instr{phi(10, 5, 11), phi(11, 6, 10), phi(12, 7, 10), phi(13, 8, 12)}, 10, 11, 12, 13), "50 60 70 80 60 50 50 70 50 60 60 50 60 50 50 60")
	wantShown(t, "the same from all", rounds([]api.Instr{phi(10, 5, 0), phi(11, 5, 0), phi(12, 5, 1)}, 10, 11, 12), "50 50 50 4 4 3 3 3 2 2 2 1")
	wantShown(t, "never asked", rounds([]api.Instr{phi(10, 5, 11), phi(11, 6, 10), phi(12, 7, 0)}, 0), "4 3 2 1")
}

// TestOldValue: what a Phi had the round before is asked behind the loop, and in it, when it has another one already.
func TestOldValue(t *testing.T) {
	c := rounds([]api.Instr{phi(10, 5, 1)}, 10)
	c.Blocks[2] = block(show(0), show(10), back())
	wantShown(t, "behind", c, "50 3 2 1 1 1")
	c = mainOf(12,
		block(set(2, 4), set(3, 1), jump(1)),
		block(phi(0, 2, 1), phi(10, 2, 0), calc(1, 0, "-", 3), show(0), show(10), choose(1, 1, 2)),
		block(back()),
	)
	wantShown(t, "in it", c, "4 4 3 4 2 3 1 2")
}

// TestOneOfTwoWays: what is moved on one way is as it was on the other one.
func TestOneOfTwoWays(t *testing.T) {
	crossing := func(n int) api.Code {
		return mainOf(9,
			block(set(0, n), set(1, 5), set(2, 6), choose(0, 1, 2)),
			block(phi(3, 1, 2), phi(4, 2, 1), show(3), show(4), back()),
			block(show(1), show(2), choose(0, 1, 3)),
			block(show(1), back()),
		)
	}
	wantShown(t, "one", crossing(1), "5 6")
	wantShown(t, "the other one", crossing(0), "5 6 5")
	row := func(n int) api.Code {
		return mainOf(9,
			block(set(0, n), set(1, 5), set(2, 6), pick(0, 1, 2, 1, 3)),
			block(phi(3, 1, 2), show(3), show(1), back()),
			block(show(0), pick(0, 3, 1, 3)),
			block(phi(4, 2, 1), show(4), show(2), back()),
		)
	}
	wantShown(t, "first place", row(0), "5 5")
	wantShown(t, "second place", row(1), "1 6 5")
	wantShown(t, "third place", row(2), "5 5")
	wantShown(t, "last place", row(9), "6 6")
}

// TestOneWay: where a block has one ahead alone, what is moved may be asked on as it was.
func TestOneWay(t *testing.T) {
	either := func(n int) api.Code {
		return mainOf(8,
			block(set(0, n), set(1, 5), choose(0, 1, 2)),
			block(phi(2, 0), phi(3, 0), phi(4, 1), show(2), show(3), show(4), show(0), show(1), jump(3)),
			block(phi(5, 1), show(1), show(5), back()),
			block(phi(6, 2), phi(7, 1), show(6), show(7), show(1), show(2), back()),
		)
	}
	wantShown(t, "one", either(1), "1 1 5 1 5 1 5 5 1")
	wantShown(t, "the other one", either(0), "5 5")
}

// TestAsked: what decides where to go is asked when values are moved already.
func TestAsked(t *testing.T) {
	same := mainOf(9,
		block(set(0, 1), set(1, 5), jump(1)),
		block(phi(2, 0, 3), phi(3, 1, 2), show(2), show(3), calc(4, 2, "-", 0), choose(4, 3, 2)),
		block(show(4), choose(2, 1, 1)),
		block(back()),
	)
	wantShown(t, "one block at both places", same, "1 5 0 5 1")
	same.Blocks[2] = block(show(4), pick(3, 1, 1, 1))
	wantShown(t, "one block at all places", same, "1 5 0 5 1")
}

func TestPhiOfParams(t *testing.T) {
	f := api.Code{Name: "f", Params: 3, Results: 3, Vars: 8, Blocks: [][]api.Instr{
		{set(7, 1), jump(1)},
		{phi(3, 0, 4), phi(4, 1, 3), phi(5, 2, 6), show(3), calc(6, 5, "-", 7), choose(6, 1, 2)},
		{back(4, 0, 5)},
	}}
	c := mainOf(3, block(set(0, 7), set(1, 8), set(2, 3), invoke("f", []int{2, 1, 0}, 0, 1, 2), show(2), show(1), show(0), back()))
	p := api.Program{Funcs: []api.Code{c, f}}
	for name, made := range stages(t, "params", p, f) {
		got := ran(with(p, 1, made), 0, 1000)
		if want := strings.Fields("7 8 7 8 7 1"); got.End != api.Done || !slices.Equal(got.Lines, want) {
			t.Errorf("params, %s: %+v; want %v", name, got, want)
		}
	}
}

// TestParamsMeet: params are never one.
func TestParamsMeet(t *testing.T) {
	f := api.Code{Name: "f", Params: 3, Results: 1, Vars: 4, Blocks: [][]api.Instr{
		{choose(2, 1, 2)}, {jump(3)}, {jump(3)}, {phi(3, 0, 1), back(3)},
	}}
	for n, want := range []string{"6", "5"} {
		c := mainOf(3, block(set(0, 5), set(1, 6), set(2, n), invoke("f", []int{0}, 0, 1, 2), show(0), back()))
		p := api.Program{Funcs: []api.Code{c, f}}
		for name, made := range stages(t, "params", p, f) {
			if got := ran(with(p, 1, made), 0, 1000); !slices.Equal(got.Lines, []string{want}) {
				t.Errorf("params, %s: %+v; want %s", name, got, want)
			}
		}
	}
}

// TestWithoutMoves: what was built comes back without a move, where no value was one.
func TestWithoutMoves(t *testing.T) {
	d := die(9)
	for n := range 500 {
		p := drawnProgram(&d)
		for _, c := range p.Funcs {
			z := mustBack(t, n, p, mustBuild(t, n, p, c))
			if ops(z, api.Phi) > 0 || ops(z, api.Move) > ops(c, api.Move) || len(z.Blocks) > len(c.Blocks)+1 {
				t.Fatalf("case %d: %+v of %+v", n, z, c)
			}
		}
	}
}

// TestNotDone: what can't be done may ask what is nowhere set.
func TestNotDone(t *testing.T) {
	c := mainOf(9,
		block(set(0, 1), jump(2)),
		block(show(7), calc(3, 7, "+", 3), jump(2)),
		block(phi(4, 0, 7), phi(5, 0, 8), show(4), show(5), back()),
		block(phi(6, 7), jump(3)),
	)
	c.Blocks[3][0] = phi(6, 6)
	wantShown(t, "asked", c, "1 1")
}

// TestBackLimits: small code always comes back; what would pass limits is refused.
func TestBackLimits(t *testing.T) {
	var p api.Program
	const blocks = 20
	small := mainOf(40, make([][]api.Instr, blocks)...)
	var to []int
	for b := 1; b < blocks; b++ {
		to = append(to, b)
	}
	small.Blocks[0] = block(set(0, 1), set(1, 2), pick(0, to...))
	for b := 1; b < blocks; b++ {
		one, two := make([]int, blocks), make([]int, blocks)
		for from := 1; from < blocks; from++ {
			one[from], two[from] = 1+2*from, 2*from
		}
		one[0], two[0] = 0, 1
		small.Blocks[b] = block(phi(2*b, one...), phi(2*b+1, two...), show(2*b), show(2*b+1), pick(2*b, to...))
	}
	if instrs(small) > 100 {
		t.Fatal(instrs(small))
	}
	mustBack(t, "small", p, small)
	mustBack(t, "small", p, mustOpt(t, "small", p, small))

	moving := func(phis, blocks int) api.Code {
		c := mainOf(phis+2, make([][]api.Instr, blocks)...)
		c.Blocks[0] = block(set(0, 0), set(1, 1), jump(1))
		for v := range phis {
			c.Blocks[1] = append(c.Blocks[1], phi(v+2, append([]int{v % 2}, repeated(blocks-2, 2+(v+1)%phis)...)...))
		}
		var to []int
		for b := 2; b < blocks; b++ {
			to = append(to, b)
			c.Blocks[b] = block(jump(1))
		}
		c.Blocks[1] = append(c.Blocks[1], pick(2, to...))
		return c
	}
	mustBack(t, "few", p, moving(20, 20))
	filling := func(phis, instrs int) api.Code {
		c := mainOf(phis+1, block(set(0, 7), jump(1)), nil)
		for v := range phis {
			c.Blocks[1] = append(c.Blocks[1], phi(v+1, 0))
		}
		c.Blocks[1] = append(c.Blocks[1], row(instrs-3, func(i int) api.Instr { return show(i % (phis + 1)) }, back())...)
		return c
	}
	mustBack(t, "full", p, filling(10, api.MaxInstrs-10))
	wantRefused(t, "one more", ssa.Back, p, filling(10, api.MaxInstrs-9), api.ErrSize)
	for _, c := range []api.Code{moving(api.MaxVars-2, 4), moving(1000, 20), moving(60, 1000)} {
		if errno := ssa.Check(p, c); errno != api.OK {
			t.Fatal(errno)
		}
		wantRefused(t, "many", ssa.Back, p, c, api.ErrSize)
	}
}

func TestBackRefuses(t *testing.T) {
	var p api.Program
	wantRefused(t, "no blocks", ssa.Back, p, api.Code{}, api.ErrNone)
	wantRefused(t, "no blocks", ssa.Opt, p, api.Code{}, api.ErrNone)
	for errno, c := range map[api.Errno]api.Code{
		api.ErrCount: meeting(phi(6, 4)), api.ErrRange: meeting(phi(6, 4, 10)), api.ErrForm: mainOf(0, block(jump(0))),
		api.ErrTwice: meeting(set(0, 0)), api.ErrUse: meeting(show(4)), api.ErrKind: meeting(show(0), phi(6, 4, 5)),
	} {
		wantRefused(t, "Opt", ssa.Opt, p, c, errno)
		wantRefused(t, "Back", ssa.Back, p, c, errno)
	}
}
