package alloc_test

import (
	"math"
	"testing"

	"postern/api"
	"postern/ir"
)

// TestRefusedHeads: what is wrong with a function ahead of its instructions.
func TestRefusedHeads(t *testing.T) {
	for _, c := range []struct {
		what                         string
		params, results, slots, vars int
		blocks                       int
		want                         api.Errno
	}{
		{"nothing", 0, 0, 0, 0, 1, api.OK},
		{"no blocks", 0, 0, 0, 0, 0, api.ErrNone},
		{"no blocks, all else wrong", 99, -99, 1, 9999, 0, api.ErrNone},
		{"most blocks", 0, 0, 0, 0, api.MaxBlocks, api.OK},
		{"more blocks", 0, 0, 0, 0, api.MaxBlocks + 1, api.ErrSize},
		{"most variables", 0, 0, 0, api.MaxVars, 1, api.OK},
		{"more variables", 0, 0, 0, api.MaxVars + 1, 1, api.ErrSize},
		{"far more variables", 0, 0, 0, math.MaxInt, 1, api.ErrSize},
		{"most params", api.MaxWords, 0, 0, api.MaxWords, 1, api.OK},
		{"more params", api.MaxWords + 1, 0, 0, 99, 1, api.ErrSize},
		{"most results", 0, api.MaxWords, 0, 1, 1, api.OK},
		{"more results", 0, api.MaxWords + 1, 0, 1, 1, api.ErrSize},
		{"params below 0", -1, 0, 0, 0, 1, api.ErrRange},
		{"far fewer params", math.MinInt, 0, 0, 0, 1, api.ErrRange},
		{"results below 0", 0, -1, 0, 0, 1, api.ErrRange},
		{"variables below 0", 0, 0, 0, -1, 1, api.ErrRange},
		{"a param is no variable", 3, 0, 0, 2, 1, api.ErrRange},
		{"a slot", 0, 0, 1, 0, 1, api.ErrRange},
		{"slots below 0", 0, 0, -1, 0, 1, api.ErrRange},
		{"too many of one, too few of another", -1, 0, 0, api.MaxVars + 1, 1, api.ErrSize},
	} {
		code := api.Code{Params: c.params, Results: c.results, Slots: c.slots, Vars: c.vars}
		code.Blocks = repeated(c.blocks, block(fail(api.BadAt)))
		wantRefused(t, c.what, program(), code, c.want)
	}
}

// TestRefusedInstrs: what is wrong with an instruction, wherever it stands.
func TestRefusedInstrs(t *testing.T) {
	p := program(function("f", 1, 2, 2, block(back(0, 1))))
	for what, c := range map[string]struct {
		in   api.Instr
		want api.Errno
	}{
		"no operator":                 {api.Instr{}, api.ErrKind},
		"a Phi":                       {api.Instr{Op: api.Phi, Ds: []int{0}}, api.ErrKind},
		"a LoadSlot":                  {api.Instr{Op: api.LoadSlot, Ds: []int{0}}, api.ErrKind},
		"a StoreSlot":                 {api.Instr{Op: api.StoreSlot, As: []int{0}}, api.ErrKind},
		"an operator below 0":         {api.Instr{Op: math.MinInt}, api.ErrKind},
		"no result":                   {api.Instr{Op: api.Const}, api.ErrCount},
		"two results":                 {api.Instr{Op: api.Move, Ds: []int{0, 1}, As: []int{0}}, api.ErrCount},
		"an argument too few":         {api.Instr{Op: api.Math, S: "+", Ds: []int{0}, As: []int{0}}, api.ErrCount},
		"an argument too many":        {api.Instr{Op: api.Load, Ds: []int{0}, As: []int{0, 0}}, api.ErrCount},
		"a place":                     {api.Instr{Op: api.Store, As: []int{0, 0}, To: []int{0}}, api.ErrCount},
		"no place":                    {pick(0), api.ErrCount},
		"a result is no variable":     {set(3, 0), api.ErrRange},
		"one below 0":                 {calc(-1, 0, "+", 0), api.ErrRange},
		"an argument is no variable":  {room(0, 3), api.ErrRange},
		"one of a call":               {invoke("f", []int{0, 1}, 3), api.ErrRange},
		"one of a Back":               {back(3), api.ErrRange},
		"a place is no block":         {choose(0, 0, 2), api.ErrRange},
		"one is below 0":              {jump(-1), api.ErrRange},
		"no such operation":           {calc(0, 0, "&&", 0), api.ErrForm},
		"nothing can be shown so":     {showAs("slice", 0), api.ErrForm},
		"nothing ends so":             {fail(api.Done), api.ErrForm},
		"nor so":                      {fail(api.BadLong), api.ErrForm},
		"too much is shown":           {show2("int"), api.ErrCount},
		"too little is shown":         {showAs("text", 0), api.ErrCount},
		"another number goes back":    {back(0), api.ErrCount},
		"there is no function":        {invoke("g", nil), api.ErrNone},
		"too few arguments of a call": {invoke("f", []int{0, 1}), api.ErrCount},
		"too many results of one":     {invoke("f", []int{0, 1, 2}, 0), api.ErrCount},
		"two of one are one":          {invoke("f", []int{1, 1}, 0), api.ErrTwice},
		"an end ahead of the end":     {back(), api.ErrForm},
		"one that may not be":         {jump(7), api.ErrRange},
	} {
		wantRefused(t, what, p, mainOf(3, block(show(0), c.in, back()), block(back())), c.want)
		wantRefused(t, what+", in a later block", p, mainOf(3, block(back()), block(c.in, show(0), back())), c.want)
	}
	wantRefused(t, "no end", p, mainOf(3, block(show(0))), api.ErrForm)
	wantRefused(t, "an empty block", p, mainOf(3, block(back()), block(), block(back())), api.ErrNone)
	wantRefused(t, "nothing at all", api.Program{}, api.Code{}, api.ErrNone)
}

func show2(kind string) api.Instr { return showAs(kind, 0, 1) }

// TestRefusedLengths: too many instructions, in one block or in all.
func TestRefusedLengths(t *testing.T) {
	of := func(ns ...int) api.Code {
		c := mainOf(1)
		for _, n := range ns {
			c.Blocks = append(c.Blocks, append(repeated(n-1, set(0, 1)), back()))
		}
		return c
	}
	wantRefused(t, "most", program(), of(api.MaxInstrs), api.OK)
	wantRefused(t, "more", program(), of(api.MaxInstrs+1), api.ErrSize)
	wantRefused(t, "most, in blocks", program(), of(1000, 4999, 1), api.OK)
	wantRefused(t, "more, in blocks", program(), of(1000, 4999, 1, 1), api.ErrSize)
}

// spoil one thing of a function.
func spoil(d *die, c *api.Code) {
	number := func() int { return one(d, math.MinInt, -1, 0, 1, 2, 3, 5, 7, 8, 9, 16, 17, 3000, 3001, math.MaxInt) }
	b := d.n(len(c.Blocks))
	if len(c.Blocks[b]) == 0 {
		return
	}
	in := &c.Blocks[b][d.n(len(c.Blocks[b]))]
	list := one(d, &in.Ds, &in.As, &in.To)
	switch d.n(12) {
	case 0:
		*one(d, &c.Params, &c.Results, &c.Vars, &c.Slots) = number()
	case 1:
		c.Blocks[b] = nil
	case 2:
		c.Blocks = c.Blocks[:b+1]
	case 3:
		c.Blocks[b] = append(c.Blocks[b], *in)
	case 4, 5:
		in.Op = one(d, number(), d.n(15), api.LoadSlot, api.StoreSlot)
	case 6:
		in.N = number()
	case 7:
		in.S = one(d, "", "f0", "f1", "f9", "+", "int", "text", "?")
	case 8:
		*list = append(*list, number())
	case 9:
		if len(in.Ds) > 1 {
			in.Ds[0] = in.Ds[1]
		}
	default:
		if len(*list) > 0 {
			(*list)[d.n(len(*list))] = number()
		}
	}
}

// TestSpoilt: refused is what ir refuses, and nothing else.
func TestSpoilt(t *testing.T) {
	d := die(5)
	found := map[api.Errno]int{}
	for n := range 10000 {
		p := drawnProgram(&d)
		c := copied(one(&d, p.Funcs...))
		for range 1 + d.n(2) {
			spoil(&d, &c)
		}
		want := ir.CheckCode(p, c)
		wantRefused(t, n, p, c, want)
		found[want]++
	}
	for _, errno := range []api.Errno{api.OK, api.ErrSize, api.ErrRange, api.ErrKind, api.ErrForm, api.ErrNone, api.ErrTwice, api.ErrCount} {
		if found[errno] < 20 {
			t.Errorf("only %d answers were %v", found[errno], errno)
		}
	}
}
