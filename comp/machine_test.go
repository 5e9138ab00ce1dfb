package comp_test

import (
	"slices"
	"strings"
	"testing"

	"postern/api"
)

// TestDrawn: machine code of drawn programs may be, is whole, and does what they do.
func TestDrawn(t *testing.T) {
	d := die(1)
	ends, lines := map[int]int{}, 0
	for n := range 3000 {
		p := wild(&d)
		r := wantBoth(t, n, p, len(p.Data)+d.n(20), 2000)
		ends[r.End]++
		lines += len(r.Lines)
	}
	for end := api.Done; end <= api.Spent; end++ {
		if ends[end] < 50 {
			t.Errorf("%v: too few end by %d", ends, end)
		}
	}
	if lines < 3000 {
		t.Errorf("only %d lines were printed", lines)
	}
}

// TestCalm: so does that of programs in which many values live long.
func TestCalm(t *testing.T) {
	d := die(2)
	lines := 0
	for n := range 3000 {
		lines += len(wantBoth(t, n, calm(&d), 0, 500).Lines)
	}
	if lines < 10000 {
		t.Errorf("only %d lines were printed", lines)
	}
}

// known programs: what they print, a word a line, and how they end.
type known struct {
	p    api.Program
	said string
	end  int
}

func knownPrograms() map[string]known {
	word := program(mainOf(2, block(set(1, 2), showAs("text", 0, 1), load(0, 1, 1), show(0), back())))
	word.Data = []int{'o' + 256, 'k', 5, 8}
	return map[string]known{
		"nothing": {program(mainOf(0, block(back()))), "", api.Done},
		"a loop": {program(mainOf(3,
			block(set(1, 1), set(2, 3), jump(1)),
			block(show(0), calc(0, 0, "+", 1), calc(2, 0, "<", 2), choose(2, 1, 2)),
			block(back()))), "0 1", api.Done},
		"a loop of three": {program(mainOf(4,
			block(set(1, 1), set(2, 3), jump(1)),
			block(show(0), calc(0, 0, "+", 1), calc(3, 0, "<", 2), choose(3, 1, 2)),
			block(showAs("bool", 3), fail(api.BadZero)))), "0 1 2 false", api.BadZero},
		"its data": {word, "ok 8", api.Done},
		"a call": {program(
			mainOf(3, block(set(0, 7), set(1, 2), invoke("both", []int{2, 0}, 0, 1), show(2), show(0), back())),
			function("both", 2, 2, 4, block(calc(2, 0, "/", 1), calc(3, 0, "%", 1), back(2, 3)))), "3 1", api.Done},
		"two turned round": {program(
			mainOf(2, block(set(0, 7), set(1, 2), invoke("turn", []int{1, 0}, 1, 0), show(0), show(1), back())),
			function("turn", 2, 2, 2, block(back(1, 0)))), "2 7", api.Done},
		"itself": {program(
			mainOf(1, block(show(0), invoke("deep", nil), back())),
			function("deep", 0, 0, 0, block(invoke("deep", nil), back()))), "0", api.BadDeep},
		"the first one again": {program(mainOf(0, block(invoke("main", nil), back()))), "", api.BadDeep},
		"a heap":              {program(mainOf(3, block(set(0, 3), room(1, 0), store(1, 2, 0), load(2, 1, 2), show(2), load(2, 1, 3), show(2), back()))), "3", api.BadAt},
		"no room":             {program(mainOf(2, block(set(0, 900), room(1, 0), show(1), room(1, 0), show(1), room(1, 0), back()))), "0", api.BadRoom},
		"a pick": {program(mainOf(1,
			block(show(0), pick(0, 1, 2, 3)),
			block(set(0, 1), jump(0)),
			block(set(0, -5), jump(0)),
			block(back()))), "0 1 -5", api.Done},
		"too much": {program(mainOf(1, block(show(0), jump(0)))), strings.Repeat(" 0", api.MaxPrint), api.BadLong},
	}
}

// TestKnown: both ways.
func TestKnown(t *testing.T) {
	for what, k := range knownPrograms() {
		if r := wantBoth(t, what, k.p, 1000, 10000); r.End != k.end || !slices.Equal(r.Lines, strings.Fields(k.said)) {
			t.Errorf("%s: %+v; want %s, %d", what, r, k.said, k.end)
		}
	}
}

// TestNoMore: with opt no function has more instructions than without.
func TestNoMore(t *testing.T) {
	d := die(3)
	for n := range 1000 {
		p := one(&d, wild, calm)(&d)
		as, less := mustMachine(t, n, p, false), mustMachine(t, n, p, true)
		for i := range p.Funcs {
			if a, b := instrs(as.Funcs[i]), instrs(less.Funcs[i]); b > a {
				t.Fatalf("%d: %d instructions, %d without opt: %+v of %+v", n, b, a, less.Funcs[i], p.Funcs[i])
			}
		}
	}
}

// TestLess: with opt what is not needed is left out, in each function.
func TestLess(t *testing.T) {
	for what, c := range map[string]api.Code{
		"known numbers":     mainOf(4, block(set(0, 2), set(1, 3), calc(2, 0, "+", 1), calc(3, 2, "*", 2), show(3), back())),
		"what nothing asks": mainOf(4, block(set(0, 2), room(1, 0), calc(2, 1, "+", 1), calc(3, 2, "*", 2), show(1), back())),
		"the same again":    mainOf(4, block(set(0, 2), room(1, 0), calc(2, 1, "+", 0), calc(3, 1, "+", 0), show(2), show(3), back())),
		"a way never gone": mainOf(2, block(set(0, 1), choose(0, 1, 2)),
			block(show(0), back()),
			block(set(1, 5), show(1), show(0), show(1), back())),
	} {
		other := c
		other.Name = "other"
		p := program(c, other)
		as, less := mustMachine(t, what, p, false), mustMachine(t, what, p, true)
		for i := range p.Funcs {
			if a, b := instrs(as.Funcs[i]), instrs(less.Funcs[i]); b >= a {
				t.Errorf("%s: %d instructions, %d without opt", what, b, a)
			}
		}
		wantBoth(t, what, p, 100, 100)
	}
}

// littleCode: 20 blocks, 40 variables, 100 instructions.
func littleCode(d *die, name string, inner func() api.Instr) api.Code {
	const blocks, instrs = 20, 100
	c := function(name, api.MaxWords, api.MaxWords, littleVars)
	c.Blocks = make([][]api.Instr, blocks)
	for range instrs - blocks {
		b := d.n(blocks)
		c.Blocks[b] = append(c.Blocks[b], inner())
	}
	for b := range c.Blocks {
		end := one(d, jump(d.n(blocks)), choose(d.n(littleVars), d.n(blocks), d.n(blocks)), pick(d.n(littleVars), d.list(50, blocks)...), back(d.list(api.MaxWords, littleVars)...))
		c.Blocks[b] = append(c.Blocks[b], end)
	}
	return c
}

const littleVars = 40

// TestLittle: programs whose functions have 20 blocks, 40 variables and 100 instructions are never too great, whatever they do with them.
func TestLittle(t *testing.T) {
	d := die(4)
	v := func() int { return d.n(littleVars) }
	call := func() api.Instr {
		return invoke("f"+itoa(1+d.n(2*api.MaxFuncs-1)), d.different(api.MaxWords, littleVars), d.list(api.MaxWords, littleVars)...)
	}
	for what, inner := range map[string]func() api.Instr{
		"sums":   func() api.Instr { return calc(v(), v(), "+", v()) },
		"moves":  func() api.Instr { return move(v(), v()) },
		"shows":  func() api.Instr { return one(&d, show(v()), set(v(), d.n(9))) },
		"stores": func() api.Instr { return one(&d, store(v(), 0, v()), load(v(), v(), 0), room(v(), v())) },
		"calls":  call,
		"all":    func() api.Instr { return one(&d, calc(v(), v(), "+", v()), show(v()), move(v(), v()), call()) },
	} {
		for n := range 4 {
			p := program(mainOf(littleVars, block(call(), back())))
			for len(p.Funcs) < 2*api.MaxFuncs {
				p.Funcs = append(p.Funcs, littleCode(&d, "f"+itoa(len(p.Funcs)), inner))
			}
			wantBoth(t, what+itoa(n), p, api.MaxHeap, 5000)
		}
	}
}

// greatCode: as many instructions as there may be.
func greatCode(d *die, name string, vars, blocks int) api.Code {
	c := function(name, 0, 0, vars)
	for b := range blocks {
		var ins []api.Instr
		for range api.MaxInstrs/blocks - 1 {
			ins = append(ins, one(d, calc(d.n(vars), d.n(vars), "+", d.n(vars)), set(d.n(vars), d.n(9)), show(d.n(vars))))
		}
		end := choose(d.n(vars), d.n(blocks), min(b+1, blocks-1))
		if b == blocks-1 {
			end = back()
		}
		c.Blocks = append(c.Blocks, append(ins, end))
	}
	return c
}

// TestGreat: so are none that are as great as they may be.
func TestGreat(t *testing.T) {
	d := die(5)
	for _, vars := range []int{1, 10, 100, api.MaxVars} {
		for _, blocks := range []int{1, 50, api.MaxBlocks} {
			p := program(greatCode(&d, "main", vars, blocks), greatCode(&d, "other", vars, blocks))
			wantBoth(t, itoa(vars)+" "+itoa(blocks), p, 0, 20000)
		}
	}
	p := program(mainOf(0, block(back())))
	for i := range 2*api.MaxFuncs - 1 {
		p.Funcs = append(p.Funcs, greatCode(&d, "f"+itoa(i), 20, 100))
	}
	p.Data = make([]int, api.MaxHeap)
	wantBoth(t, "most functions and Data", p, api.MaxHeap, 10)
}
