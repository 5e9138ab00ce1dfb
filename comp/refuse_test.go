package comp_test

import (
	"math"
	"testing"

	"postern/api"
	"postern/ir"
)

// empty function that may be.
func empty(name string) api.Code { return function(name, 0, 0, 0, block(back())) }

// of so many empty functions.
func ofEmpty(n int) api.Program {
	var p api.Program
	for i := range n {
		p.Funcs = append(p.Funcs, empty("f"+itoa(i)))
	}
	return p
}

// TestRefusedPrograms: what is wrong with the whole; beside each what just may be.
func TestRefusedPrograms(t *testing.T) {
	full := func(words int) api.Program {
		p := ofEmpty(1)
		p.Data = make([]int, words)
		return p
	}
	twice := ofEmpty(3)
	twice.Funcs[2].Name = "f0"
	twiceBehind := ofEmpty(2 * api.MaxFuncs)
	twiceBehind.Funcs[38].Name = "f39"
	for what, p := range map[string]api.Program{
		"no functions":                      {},
		"no functions, but Data":            {Data: []int{1}},
		"a word too many":                   full(api.MaxHeap + 1),
		"a function too many":               ofEmpty(2*api.MaxFuncs + 1),
		"far too many functions":            ofEmpty(1 << 16),
		"two of one name":                   twice,
		"two of one name, the last ones":    twiceBehind,
		"a first one with a param":          program(function("main", 1, 0, 1, block(back()))),
		"a first one with a result":         program(function("main", 0, 1, 1, block(back(0)))),
		"both":                              program(function("main", 1, 1, 1, block(back(0)))),
		"one less than no param, and one":   program(function("main", -1, 1, 1, block(back(0)))),
		"one less than no result, and one":  program(function("main", 1, -1, 1, block(back()))),
		"a first one without anything":      {Funcs: make([]api.Code, 1)},
		"others without anything":           program(empty("main"), api.Code{Name: "f"}),
		"another one of itself: not found":  program(mainOf(0, block(invoke("Main", nil), back()))),
		"a first one whose name is another": program(function("f", 0, 0, 0, block(invoke("main", nil), back()))),
	} {
		wantRefused(t, what, p)
	}
	for what, p := range map[string]api.Program{
		"one":              ofEmpty(1),
		"most words":       full(api.MaxHeap),
		"most functions":   ofEmpty(2 * api.MaxFuncs),
		"no name":          program(empty("")),
		"params elsewhere": program(empty("main"), function("f", 1, 1, 1, block(back(0)))),
	} {
		wantBoth(t, what, p, api.MaxHeap, 10)
	}
}

// wantBad: programs that have this function, first or last, are refused.
func wantBad(t *testing.T, what string, c api.Code) {
	t.Helper()
	aid := function("aid", 1, 2, 2, block(back(0, 1)))
	c.Name = "main"
	wantRefused(t, what, program(c, aid))
	c.Name = "bad"
	wantRefused(t, what+", last", program(empty("main"), aid, empty("f"), c))
}

// TestRefusedHeads: what is wrong with a function ahead of its instructions.
func TestRefusedHeads(t *testing.T) {
	for what, head := range map[string]api.Code{
		"more variables":          {Vars: api.MaxVars + 1},
		"far more variables":      {Vars: math.MaxInt},
		"more params":             {Params: api.MaxWords + 1, Vars: 99},
		"more results":            {Results: api.MaxWords + 1, Vars: 1},
		"params below 0":          {Params: -1},
		"results below 0":         {Results: -1},
		"variables below 0":       {Vars: -1},
		"a param is no variable":  {Params: 3, Vars: 2},
		"a slot":                  {Slots: 1},
		"slots below 0":           {Slots: math.MinInt},
		"slots, as a machine has": {Params: 1, Vars: 1, Slots: 1},
	} {
		wantBad(t, what+", no blocks", head)
		head.Blocks = [][]api.Instr{{fail(api.BadAt)}}
		wantBad(t, what, head)
	}
	wantBad(t, "no blocks", mainOf(0))
	wantBad(t, "more blocks", mainOf(0, repeated(api.MaxBlocks+1, block(back()))...))
	wantBad(t, "an empty block", mainOf(0, block(back()), block(), block(back())))
	wantBad(t, "more instructions", mainOf(1, append(repeated(api.MaxInstrs, set(0, 1)), back())))
	wantBad(t, "more instructions, in blocks", mainOf(0, append(repeated(api.MaxBlocks-1, block(back())), append(repeated(4001, showAs("int", 0)), back()))...))
}

// TestRefusedInstrs: what is wrong with an instruction, wherever it stands.
func TestRefusedInstrs(t *testing.T) {
	for what, in := range map[string]api.Instr{
		"no operator":                  {},
		"a Phi":                        {Op: api.Phi, Ds: []int{0}},
		"a LoadSlot":                   {Op: api.LoadSlot, Ds: []int{0}},
		"a StoreSlot":                  {Op: api.StoreSlot, As: []int{0}},
		"an operator below 0":          {Op: math.MinInt},
		"no result":                    {Op: api.Const},
		"two results":                  {Op: api.Move, Ds: []int{0, 1}, As: []int{0}},
		"an argument too few":          {Op: api.Math, S: "+", Ds: []int{0}, As: []int{0}},
		"an argument too many":         {Op: api.Load, Ds: []int{0}, As: []int{0, 0}},
		"a place":                      {Op: api.Store, As: []int{0, 0}, To: []int{0}},
		"no place":                     pick(0),
		"a result is no variable":      set(3, 0),
		"one below 0":                  calc(-1, 0, "+", 0),
		"an argument is no variable":   room(0, 3),
		"one of a call":                invoke("aid", []int{0, 1}, 3),
		"one of a Back":                back(3),
		"a place is no block":          choose(0, 0, 2),
		"one is below 0":               jump(-1),
		"no such operation":            calc(0, 0, "&&", 0),
		"nothing can be shown so":      showAs("slice", 0),
		"nothing ends so":              fail(api.Done),
		"nor so":                       fail(api.BadLong),
		"too much is shown":            showAs("int", 0, 1),
		"too little is shown":          showAs("text", 0),
		"another number goes back":     back(0),
		"there is no function":         invoke("none", nil),
		"too few arguments of a call":  invoke("aid", []int{0, 1}),
		"too many results of one":      invoke("aid", []int{0, 1, 2}, 0),
		"two of one are one":           invoke("aid", []int{1, 1}, 0),
		"an end ahead of the end":      back(),
		"a function that is not there": invoke("", nil),
	} {
		wantBad(t, what, mainOf(3, block(show(0), in, back()), block(back())))
		wantBad(t, what+", in a later block", mainOf(3, block(back()), block(in, show(0), back())))
	}
	wantBad(t, "no end", mainOf(3, block(show(0))))
	wantBad(t, "no end of a later block", mainOf(3, block(back()), block(show(0))))
}

// TestSpoilt: refused is what ir refuses, and nothing else.
func TestSpoilt(t *testing.T) {
	d := die(6)
	found := map[api.Errno]int{}
	for n := range 6000 {
		p := copied(one(&d, wild, calm)(&d))
		for range 1 + d.n(2) {
			spoil(&d, &p)
		}
		errno := ir.Check(p)
		found[errno]++
		if errno == api.OK {
			wantBoth(t, n, p, len(p.Data), 200)
		} else {
			wantRefused(t, n, p)
		}
	}
	for _, errno := range []api.Errno{api.OK, api.ErrSize, api.ErrRange, api.ErrKind, api.ErrForm, api.ErrNone, api.ErrTwice, api.ErrCount} {
		if found[errno] < 20 {
			t.Errorf("only %d programs were %v", found[errno], errno)
		}
	}
}
