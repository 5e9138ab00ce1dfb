package ssa_test

import (
	"fmt"
	"slices"
	"strconv"
	"testing"

	"postern/api"
	"postern/ir"
	"postern/ssa"
)

// What limits P6.4 names for code of which ErrSize is not answered.
const (
	fewBlocks = 20
	fewVars   = 40
	fewInstrs = 100
)

// upTo: the numbers from 0 to below that.
func upTo(n int) []int {
	l := make([]int, n)
	for i := range l {
		l[i] = i
	}
	return l
}

// giving: a function that is called f and has so many results.
func giving(results int) api.Code { return api.Code{Name: "f", Results: results} }

// callsIn: code of one block that calls f so many times.
func callsIn(times, results int) api.Code {
	return mainOf(results, row(times, func(int) api.Instr { return invoke("f", upTo(results)) }, back()))
}

// TestCallsThatGiveMuch: however many calls of a function that no program that may be has: little code is built, and is refused where it was refused.
func TestCallsThatGiveMuch(t *testing.T) {
	for times := range fewInstrs {
		c := callsIn(times, fewVars)
		p := api.Program{Funcs: []api.Code{c, giving(fewVars)}}
		x := mustBuild(t, times, p, c)
		z := mustBack(t, times, p, mustOpt(t, times, p, x))
		if calls := ops(x, api.Invoke); times*fewVars <= api.MaxVars && calls != times {
			t.Errorf("%d of %d calls are left, though all fit", calls, times)
		}
		for _, results := range []int{0, api.MaxWords, fewVars - 1} {
			q := api.Program{Funcs: []api.Code{c, giving(results)}}
			if was, is := ir.CheckCode(q, c), ir.CheckCode(q, z); was != is {
				t.Errorf("%d calls, %d results: %v, and of what is made of it %v", times, results, was, is)
			}
		}
	}
}

// TestCallsOfAll: each call is one of another function, and all that they set is shown.
func TestCallsOfAll(t *testing.T) {
	const calls = 95
	var p api.Program
	for i := range calls {
		f := giving(fewVars)
		f.Name += strconv.Itoa(i)
		p.Funcs = append(p.Funcs, f)
	}
	c := mainOf(fewVars, row(calls, func(i int) api.Instr { return invoke(p.Funcs[i].Name, upTo(fewVars)) }, jump(1)),
		block(show(0), show(fewVars-1), choose(3, 1, 0)))
	if instrs(c) > fewInstrs {
		t.Fatalf("%d instructions", instrs(c))
	}
	mustBuild(t, "a loop", p, c)
	c.Blocks[0][0] = set(0, 1)
	mustBuild(t, "a loop, begun by another one", p, c)
	slices.Reverse(c.Blocks)
	c.Blocks[0][2].To, c.Blocks[1][calls].To = []int{1, 0}, []int{0}
	mustBuild(t, "a loop, the other way round", p, c)
}

// wide: drawn little code, full of calls that give as much as little code can take, some of them less.
func wide(d *die) api.Program {
	p := api.Program{Funcs: []api.Code{{Name: "wide", Params: d.n(api.MaxWords + 1), Results: d.n(api.MaxWords + 1), Vars: fewVars}}}
	for _, results := range one(d, []int{1, api.MaxWords, api.MaxWords + 1, fewVars - 1, fewVars}, []int{fewVars - 1, fewVars}) {
		f := giving(results)
		f.Name, f.Params = f.Name+strconv.Itoa(len(p.Funcs)), d.n(3)
		p.Funcs = append(p.Funcs, f)
	}
	c := &p.Funcs[0]
	c.Blocks = make([][]api.Instr, one(d, 1, 2, 3, 1+d.n(fewBlocks), fewBlocks))
	for range fewInstrs - len(c.Blocks) {
		b := d.n(len(c.Blocks))
		f := p.Funcs[1+d.n(len(p.Funcs)-1)]
		first := d.n(fewVars - f.Results + 1)
		in := invoke(f.Name, upTo(fewVars)[first:first+f.Results], d.list(f.Params, fewVars)...)
		c.Blocks[b] = append(c.Blocks[b], one(d, in, in, in, in, in, in, in, show(d.n(fewVars))))
	}
	for b := range c.Blocks {
		all := append(upTo(len(c.Blocks)), d.list(3, len(c.Blocks))...)
		c.Blocks[b] = append(c.Blocks[b], one(d, pick(d.n(fewVars), all...), pick(d.n(fewVars), all[d.n(len(all)):]...), drawnEnd(d, *c)))
	}
	return p
}

// TestWide: little code, whatever it calls: it is built, no program gets to be one that may be by that, and what was handed in stays.
func TestWide(t *testing.T) {
	d := die(8)
	for n := range 120 {
		p := roomy(wide(&d))
		c := p.Funcs[0]
		if len(c.Blocks) > fewBlocks || c.Vars > fewVars || instrs(c) > fewInstrs {
			t.Fatalf("%d blocks, %d variables, %d instructions", len(c.Blocks), c.Vars, instrs(c))
		}
		was := fmt.Sprint(whole(p))
		x := mustBuild(t, n, p, c)
		mustOpt(t, n, p, x)
		mine := memory{}
		claimCode(t, mine, c)
		claimCode(t, mine, x)
		claimCode(t, mine, mustBuild(t, n, p, c))
		if z, errno := ssa.Back(p, x); errno == api.OK {
			before, after := ir.Check(p), ir.Check(with(p, 0, z))
			if before == api.OK || before != after {
				t.Fatalf("case %d: %v, and %v behind that", n, before, after)
			}
		} else if errno != api.ErrSize {
			t.Fatalf("case %d: Back answers %v", n, errno)
		}
		if fmt.Sprint(whole(p)) != was {
			t.Fatalf("case %d: what was handed in is another one", n)
		}
	}
}

// TestCallsThatFunctionsMay: calls that a program that may be can have all stay, or there are too many.
func TestCallsThatFunctionsMay(t *testing.T) {
	const most = api.MaxVars / api.MaxWords
	f := giving(api.MaxWords)
	f.Vars, f.Blocks = api.MaxWords, [][]api.Instr{{back(upTo(api.MaxWords)...)}}
	for _, times := range []int{1, fewInstrs - 1, most, most + 1} {
		c := callsIn(times, api.MaxWords)
		p := api.Program{Funcs: []api.Code{c, f}}
		if errno := ir.Check(p); errno != api.OK {
			t.Fatal(errno)
		}
		if times > most {
			wantRefused(t, strconv.Itoa(times), ssa.Build, p, c, api.ErrSize)
		} else if x := mustBuild(t, times, p, c); ops(x, api.Invoke) != times || ops(x, api.Fail) != 0 {
			t.Errorf("%d calls: %+v", times, x)
		}
	}
}
