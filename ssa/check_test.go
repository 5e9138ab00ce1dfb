package ssa_test

import (
	"math"
	"reflect"
	"slices"
	"testing"

	"postern/api"
	"postern/ir"
	"postern/ssa"
)

func wantCheck(t *testing.T, what any, p api.Program, c api.Code, want api.Errno) {
	t.Helper()
	if got := ssa.Check(p, c); got != want {
		t.Errorf("%v: %v, want %v", what, got, want)
	}
}

// meeting: two blocks come together in a third one, which has these instructions; 0 to 3 are set above it, 4 and 5 in the first and in the second one of them. 6 to 9 are free.
func meeting(ins ...api.Instr) api.Code {
	return mainOf(10,
		block(set(0, 1), set(1, 1), set(2, 2), set(3, 3), choose(0, 1, 2)),
		block(set(4, 4), jump(3)),
		block(set(5, 5), jump(3)),
		append(ins, back()),
	)
}

// around: a loop: 0 and 1 are set ahead of it; its first block has these instructions, and its second one sets 2 to 4; behind it is the last one. 5 to 9 are free.
func around(ins ...api.Instr) api.Code {
	return mainOf(10,
		block(set(0, 1), set(1, 2), jump(1)),
		append(ins, choose(0, 2, 3)),
		block(set(2, 2), set(3, 3), set(4, 4), jump(1)),
		block(back()),
	)
}

func TestGoodPhis(t *testing.T) {
	var p api.Program
	for what, c := range map[string]api.Code{
		"none":                     meeting(),
		"one":                      meeting(phi(6, 4, 5), show(6)),
		"what is above both":       meeting(phi(6, 0, 1), phi(7, 3, 3)),
		"never asked":              meeting(phi(6, 4, 5)),
		"several":                  meeting(phi(6, 4, 5), phi(9, 4, 0), phi(8, 2, 5), show(6), show(8), show(9)),
		"in a loop":                around(phi(5, 0, 2), show(5)),
		"asks itself":              around(phi(5, 0, 5), show(5)),
		"ask each other":           around(phi(5, 0, 6), phi(6, 1, 5), show(5)),
		"asks what is set below":   around(phi(5, 0, 6), move(6, 5)),
		"behind a block of two":    mainOf(3, block(set(0, 0), choose(0, 1, 1)), block(phi(1, 0), show(1), back())),
		"a block leads to itself":  mainOf(3, block(set(0, 0), jump(1)), block(phi(1, 0, 2), phi(2, 0, 1), choose(2, 1, 2)), block(back())),
		"a param":                  {Params: 2, Results: 1, Vars: 3, Blocks: [][]api.Instr{{jump(1)}, {phi(2, 1, 2), choose(2, 1, 2)}, {back(0)}}},
		"of a block that is not":   mainOf(4, block(set(0, 0), jump(1)), block(phi(1, 0, 3), back()), block(show(9%4), jump(1))),
		"in a block that is not":   mainOf(4, block(back()), block(phi(1, 3), show(2), jump(1))),
		"not done, set elsewhere":  mainOf(4, block(back()), block(show(1), jump(2)), block(set(1, 0), back())),
		"two ways from one block":  mainOf(4, block(set(0, 0), choose(0, 1, 2)), block(phi(1, 0, 0), back()), block(jump(1))),
		"from all places of a row": mainOf(4, block(set(0, 0), pick(0, 1, 1, 2, 1)), block(phi(1, 0, 0), back()), block(jump(1))),
	} {
		wantCheck(t, what, p, c, api.OK)
	}
}

// TestNeedlessFields: what a Phi does not need does not count.
func TestNeedlessFields(t *testing.T) {
	in := phi(6, 4, 5)
	in.N, in.S = -7, "?"
	wantCheck(t, "N and S", api.Program{}, meeting(in), api.OK)
}

func TestCodeThatMayNotBe(t *testing.T) {
	var p api.Program
	wantCheck(t, "no blocks", p, api.Code{}, api.ErrNone)
	wantCheck(t, "an empty block", p, mainOf(1, nil), api.ErrNone)
	wantCheck(t, "a block of Phis alone", p, mainOf(3, block(set(0, 0), jump(1)), block(phi(1, 0), phi(2, 0))), api.ErrNone)
	wantCheck(t, "a Phi behind others", p, meeting(phi(6, 4, 5), show(6), phi(7, 4, 5)), api.ErrKind)
	wantCheck(t, "a Phi as the end", p, mainOf(3, block(set(0, 0), jump(1)), block(show(0), phi(1, 0))), api.ErrKind)
	wantCheck(t, "a block that goes on", p, mainOf(1, block(set(0, 0))), api.ErrForm)
	wantCheck(t, "too many variables", p, mainOf(api.MaxVars+1, block(back())), api.ErrSize)
	wantCheck(t, "slots", p, api.Code{Slots: 1, Blocks: [][]api.Instr{{back()}}}, api.ErrRange)
	wantCheck(t, "no such function", p, meeting(invoke("g", nil)), api.ErrNone)
	wantCheck(t, "a result twice", callees, meeting(invoke("two", []int{6, 6}, 0)), api.ErrTwice)
}

// callees: two takes one and gives two; many takes none and gives sixteen.
var callees = api.Program{Funcs: []api.Code{
	{Name: "two", Params: 1, Results: 2, Vars: 1, Blocks: [][]api.Instr{{back(0, 0)}}},
	{Name: "many", Params: 0, Results: 16, Vars: 1, Blocks: [][]api.Instr{{back(make([]int, 16)...)}}},
}}

func TestPhiCounts(t *testing.T) {
	for what, in := range map[string]api.Instr{
		"no result":           {Op: api.Phi, As: []int{4, 5}},
		"two results":         {Op: api.Phi, Ds: []int{6, 7}, As: []int{4, 5}},
		"no arguments":        phi(6),
		"one argument":        phi(6, 4),
		"three arguments":     phi(6, 4, 5, 0),
		"a place":             {Op: api.Phi, Ds: []int{6}, As: []int{4, 5}, To: []int{1}},
		"far away, and short": phi(99, 4),
	} {
		wantCheck(t, what, api.Program{}, meeting(in), api.ErrCount)
	}
	c := meeting(phi(6, 4, 5))
	c.Blocks = append(c.Blocks, block(jump(3)))
	wantCheck(t, "a block that can't be done is ahead, too", api.Program{}, c, api.ErrCount)
}

func TestPhiRanges(t *testing.T) {
	for _, far := range []int{-1, 10, math.MinInt, math.MaxInt} {
		wantCheck(t, far, api.Program{}, meeting(phi(far, 4, 5)), api.ErrRange)
		wantCheck(t, far, api.Program{}, meeting(phi(6, far, 5)), api.ErrRange)
		wantCheck(t, far, api.Program{}, meeting(phi(6, 4, far)), api.ErrRange)
	}
	wantCheck(t, "the last one", api.Program{}, meeting(phi(9, 4, 5)), api.OK)
}

func TestFirstBlock(t *testing.T) {
	var p api.Program
	wantCheck(t, "a Phi there", p, mainOf(1, block(phi(0), back())), api.ErrForm)
	wantCheck(t, "a Phi there, and a loop", p, mainOf(2, block(phi(0, 0), jump(0))), api.ErrForm)
	wantCheck(t, "a loop", p, mainOf(0, block(jump(0))), api.ErrForm)
	wantCheck(t, "a loop of two", p, mainOf(1, block(set(0, 0), jump(1)), block(choose(0, 1, 0))), api.ErrForm)
	wantCheck(t, "from what can't be done", p, mainOf(0, block(back()), block(jump(0))), api.ErrForm)
}

func TestSetTwice(t *testing.T) {
	var p api.Program
	wantCheck(t, "in a block", p, meeting(set(6, 0), set(6, 0)), api.ErrTwice)
	wantCheck(t, "in two blocks", p, meeting(set(4, 0)), api.ErrTwice)
	wantCheck(t, "by two Phis", p, meeting(phi(6, 4, 5), phi(6, 4, 5)), api.ErrTwice)
	wantCheck(t, "by a Phi and another one", p, meeting(phi(6, 4, 5), move(6, 6)), api.ErrTwice)
	wantCheck(t, "a result", callees, meeting(invoke("two", []int{6, 5}, 0)), api.ErrTwice)
	wantCheck(t, "in what can't be done", p, mainOf(2, block(set(0, 0), back()), block(set(0, 0), back())), api.ErrTwice)
	for v, want := range []api.Errno{api.ErrTwice, api.ErrTwice, api.OK} {
		c := api.Code{Params: 2, Vars: 3, Blocks: [][]api.Instr{{set(v, 0), back()}}}
		wantCheck(t, "a param", p, c, want)
	}
}

func TestNotSet(t *testing.T) {
	var p api.Program
	for what, c := range map[string]api.Code{
		"never":                       meeting(show(6)),
		"by itself":                   meeting(calc(6, 0, "+", 6)),
		"behind":                      meeting(show(6), set(6, 0)),
		"on one of two ways":          meeting(show(4)),
		"below":                       around(show(2)),
		"in what can't be done":       mainOf(1, block(jump(1)), block(show(0), back()), block(set(0, 0), jump(1))),
		"at the end":                  mainOf(1, block(choose(0, 1, 1)), block(back())),
		"by a Phi: never":             meeting(phi(6, 4, 7)),
		"by a Phi: on the other way":  meeting(phi(6, 5, 4)),
		"by a Phi: there":             meeting(phi(6, 4, 7), set(7, 0)),
		"by a Phi: itself":            meeting(phi(6, 4, 6)),
		"by a Phi: another one":       meeting(phi(6, 4, 5), phi(7, 6, 5)),
		"by a Phi: below, but first":  around(phi(5, 2, 0)),
		"by a Phi: itself, but first": around(phi(5, 5, 0)),
	} {
		wantCheck(t, what, p, c, api.ErrUse)
	}
	c := api.Code{Params: 1, Vars: 2, Blocks: [][]api.Instr{{show(1), back()}}}
	wantCheck(t, "no param", p, c, api.ErrUse)
}

// TestOrder: of two things that are wrong the one that is named first is the answer; of Phis the first one tells.
func TestOrder(t *testing.T) {
	var p api.Program
	count, far := phi(6, 4), phi(6, 4, 10)
	twice := []api.Instr{set(4, 0), show(7)}
	wantCheck(t, "range, then count", p, meeting(append([]api.Instr{far, count}, twice...)...), api.ErrRange)
	wantCheck(t, "count, then range", p, meeting(append([]api.Instr{count, far}, twice...)...), api.ErrCount)
	wantCheck(t, "twice, and use", p, meeting(twice...), api.ErrTwice)
	wantCheck(t, "code, and count", p, meeting(count, fail(99)), api.ErrForm)

	first := meeting(count)
	first.Blocks[0] = append(block(phi(6)), first.Blocks[0]...)
	wantCheck(t, "the first block, and count behind it", p, first, api.ErrForm)
	first.Blocks[0][0] = phi(10)
	wantCheck(t, "range, in the first block", p, first, api.ErrRange)
	first.Blocks[0][0] = phi(10, 0)
	wantCheck(t, "count, in the first block", p, first, api.ErrCount)

	loop := meeting(twice...)
	loop.Blocks[1] = block(set(4, 4), choose(4, 0, 3))
	wantCheck(t, "a loop, and twice", p, loop, api.ErrForm)
	loop.Blocks[3] = append(block(far), loop.Blocks[3]...)
	wantCheck(t, "range, and a loop", p, loop, api.ErrRange)
}

// plainPhis: how many Phis stand ahead of all others.
func plainPhis(block []api.Instr) int {
	at := slices.IndexFunc(block, func(in api.Instr) bool { return in.Op != api.Phi })
	if at < 0 {
		return len(block)
	}
	return at
}

// plainCheck: what P6.3 says, word by word.
func plainCheck(p api.Program, c api.Code) api.Errno {
	bare := c
	bare.Blocks = nil
	for _, b := range c.Blocks {
		bare.Blocks = append(bare.Blocks, b[plainPhis(b):])
	}
	if errno := ir.CheckCode(p, bare); errno != api.OK {
		return errno
	}
	ahead := plainAhead(c)
	for b, block := range c.Blocks {
		for _, in := range block[:plainPhis(block)] {
			vars := append(slices.Clone(in.Ds), in.As...)
			switch {
			case len(in.Ds) != 1 || len(in.As) != len(ahead[b]) || len(in.To) > 0:
				return api.ErrCount
			case slices.Min(vars) < 0 || slices.Max(vars) >= c.Vars:
				return api.ErrRange
			case b == 0:
				return api.ErrForm
			}
		}
	}
	if len(ahead[0]) > 0 {
		return api.ErrForm
	}
	return plainUses(c, ahead)
}

// plainUses: is each variable set once, and asked only where it is?
func plainUses(c api.Code, ahead [][]int) api.Errno {
	sets := make([]int, c.Vars)
	for v := range c.Params {
		sets[v]++
	}
	for _, block := range c.Blocks {
		for _, in := range block {
			for _, d := range in.Ds {
				sets[d]++
			}
		}
	}
	if slices.Max(append(sets, 0)) > 1 {
		return api.ErrTwice
	}
	above := plainAbove(c)
	setIn := func(v int, block []api.Instr) bool {
		return slices.ContainsFunc(block, func(in api.Instr) bool { return slices.Contains(in.Ds, v) })
	}
	known := func(v, b, at int) bool {
		return v < c.Params || setIn(v, c.Blocks[b][:at]) ||
			slices.ContainsFunc(above[b], func(a int) bool { return a != b && setIn(v, c.Blocks[a]) })
	}
	for b, block := range c.Blocks {
		for at, in := range block {
			for i, v := range in.As {
				from, upTo := b, at
				if in.Op == api.Phi {
					from, upTo = ahead[b][i], len(c.Blocks[ahead[b][i]])
				}
				if len(above[b]) > 0 && len(above[from]) > 0 && !known(v, from, upTo) {
					return api.ErrUse
				}
			}
		}
	}
	return api.OK
}

// spoil one thing of code.
func spoil(d *die, c *api.Code) {
	most := max(c.Vars, 0) + 1
	number := func() int { return one(d, -1, 0, 1, 2, d.n(most), d.n(most), c.Vars, math.MaxInt) }
	b := d.n(len(c.Blocks))
	if len(c.Blocks[b]) == 0 {
		return
	}
	at := d.n(len(c.Blocks[b]))
	in := &c.Blocks[b][at]
	list := one(d, &in.Ds, &in.As, &in.As, &in.To)
	switch d.n(14) {
	case 0:
		c.Vars += one(d, -1, 1, 5)
	case 1:
		c.Params = number()
	case 2:
		c.Blocks[b] = slices.Delete(c.Blocks[b], at, at+1)
	case 3:
		c.Blocks = append(c.Blocks, block(jump(d.n(len(c.Blocks)))))
	case 4:
		c.Blocks = append(c.Blocks, copied(c.Blocks[b]))
	case 5:
		in.Op = 1 + d.n(15)
	case 6:
		c.Blocks[b] = slices.Insert(c.Blocks[b], 0, phi(number(), d.list(d.n(4), most)...))
	case 7:
		*list = append(*list, number())
	case 8, 9, 10, 11:
		if len(*list) > 0 {
			(*list)[d.n(len(*list))] = number()
		}
	case 12:
		if len(*list) > 0 {
			*list = (*list)[1:]
		}
	case 13:
		other := one(d, c.Blocks...)
		if len(other) > 0 {
			*in, other[0] = other[0], *in
		}
	}
}

// TestSpoilt: code is refused as the chapter's rules say; what is made of it if it is not does the same, and if it is, Opt and Back refuse it, too.
func TestSpoilt(t *testing.T) {
	d := die(2)
	seen := map[api.Errno]int{}
	for n := range 30000 {
		p := drawnProgram(&d)
		at := d.n(len(p.Funcs))
		f := p.Funcs[at]
		c := mustBuild(t, n, p, f)
		for range d.n(4) {
			spoil(&d, &c)
		}
		want := plainCheck(p, c)
		seen[want]++
		wantCheck(t, c, p, c, want)
		if want != api.OK {
			wantRefused(t, "Opt", ssa.Opt, p, c, want)
			wantRefused(t, "Back", ssa.Back, p, c, want)
			continue
		}
		o, z := mustOpt(t, n, p, c), mustBack(t, n, p, c)
		if c.Params == f.Params && c.Results == f.Results {
			wantSame(t, &d, n, with(p, at, c), with(p, at, o))
			wantSame(t, &d, n, with(p, at, c), with(p, at, z))
		}
	}
	for _, errno := range []api.Errno{api.OK, api.ErrRange, api.ErrKind, api.ErrForm, api.ErrNone, api.ErrTwice, api.ErrCount, api.ErrUse} {
		if seen[errno] < 20 {
			t.Errorf("%v: too few are answered with %v", seen, errno)
		}
	}
}

// wantRefused: with an error there is nothing else.
func wantRefused(t *testing.T, what string, do maker, p api.Program, c api.Code, want api.Errno) {
	t.Helper()
	got, errno := do(p, c)
	if errno != want || !reflect.DeepEqual(got, api.Code{}) {
		t.Errorf("%s of %+v: %+v, %v; want %v", what, c, got, errno, want)
	}
}
