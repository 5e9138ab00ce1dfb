package alloc_test

import (
	"fmt"
	"testing"

	"postern/api"
	"postern/vm"
)

// lone machine code of a function that calls others: those are all there, and may be.
func wantLone(t *testing.T, what any, p api.Program, c api.Code) {
	t.Helper()
	m := mustAlloc(t, what, p, c)
	q := program(mainOf(0, block(back())), m)
	for _, f := range p.Funcs {
		q.Funcs = append(q.Funcs, api.Code{Name: f.Name, Params: f.Params, Results: f.Results, Slots: max(1, f.Params), Blocks: [][]api.Instr{{back(make([]int, f.Results)...)}}})
	}
	if errno := vm.Check(q); errno != api.OK {
		t.Errorf("%v: %v", what, errno)
	}
}

// TestLittle: code of 20 blocks, 40 variables and 100 instructions is never too great, whatever it does with them.
func TestLittle(t *testing.T) {
	const blocks, vars, inner = 20, 40, 80
	wide := api.Code{Name: "wide", Params: api.MaxWords, Results: api.MaxWords}
	p := program(wide)
	d := die(1)
	kinds := map[string]func(i int) api.Instr{
		"sums":   func(i int) api.Instr { return calc(d.n(vars), d.n(vars), "+", d.n(vars)) },
		"moves":  func(i int) api.Instr { return move(d.n(vars), d.n(vars)) },
		"texts":  func(i int) api.Instr { return showAs("text", d.n(vars), d.n(vars)) },
		"stores": func(i int) api.Instr { return store(d.n(vars), 0, d.n(vars)) },
		"calls": func(i int) api.Instr {
			return invoke("wide", d.different(api.MaxWords, vars), d.list(api.MaxWords, vars)...)
		},
		"calls and sums": func(i int) api.Instr {
			return one(&d, calc(d.n(vars), d.n(vars), "+", d.n(vars)), invoke("wide", d.different(api.MaxWords, 20), d.different(api.MaxWords, 20)...))
		},
	}
	for what, make := range kinds {
		for n := range 300 {
			c := function("c", api.MaxWords, api.MaxWords, vars)
			c.Blocks = repeated(blocks, []api.Instr(nil))
			for i := range inner {
				b := d.n(blocks)
				c.Blocks[b] = append(c.Blocks[b], make(i))
			}
			for b := range c.Blocks {
				c.Blocks[b] = append(c.Blocks[b], one(&d, jump(d.n(blocks)), choose(d.n(vars), d.n(blocks), d.n(blocks)), pick(d.n(vars), d.list(1000, blocks)...), back(d.list(api.MaxWords, vars)...)))
			}
			wantLone(t, fmt.Sprint(what, n), p, c)
		}
	}
}

// TestFarTooWide: calls of functions that no program may have, as they take or give too much, are code, too; and so is what is made of it in a program that has them.
func TestFarTooWide(t *testing.T) {
	for _, n := range []int{api.MaxWords, api.MaxWords + 1, 40, 5000} {
		results := min(n, 40)
		f := api.Code{Name: "f", Params: n, Results: results}
		as := make([]int, n)
		for i := range as {
			as[i] = i * 7 % 40
		}
		call := invoke("f", upTo(results), as...)
		c := mainOf(40, append(repeated(90, call), calc(1, 1, "+", 2), show(1), back()))
		m := mustAlloc(t, n, program(f), c)
		calls := ops(m, api.Invoke)
		if calls != 90 {
			t.Errorf("%d: %d calls", n, calls)
		}
		for _, in := range m.Blocks[0] {
			if in.Op == api.Invoke && (in.S != "f" || len(in.As) != n || len(in.Ds) != results) {
				t.Errorf("%d: %d arguments, %d results", n, len(in.As), len(in.Ds))
			}
		}
	}
}

// TestGreat: code of as many variables, blocks and instructions as there may be; none is too great.
func TestGreat(t *testing.T) {
	wide := api.Code{Name: "wide", Params: api.MaxWords, Results: api.MaxWords}
	d := die(2)
	const vars = api.MaxVars
	for what, make := range map[string]func(vars int) api.Instr{
		"sums":  func(vars int) api.Instr { return calc(d.n(vars), d.n(vars), "+", d.n(vars)) },
		"moves": func(vars int) api.Instr { return move(d.n(vars), d.n(vars)) },
		"calls": func(vars int) api.Instr {
			first := d.n(vars - api.MaxWords)
			l := upTo(first + api.MaxWords)[first:]
			return invoke("wide", l, l...)
		},
	} {
		for _, vars := range []int{20, 40, vars} {
			for _, blocks := range []int{1, 100, api.MaxBlocks} {
				c := function("c", api.MaxWords, api.MaxWords, vars)
				for b := range blocks {
					var ins []api.Instr
					for range api.MaxInstrs/blocks - 1 {
						ins = append(ins, make(vars))
					}
					end := choose(d.n(vars), d.n(blocks), min(b+1, blocks-1))
					if b == blocks-1 {
						end = back(upTo(api.MaxWords)...)
					}
					c.Blocks = append(c.Blocks, append(ins, end))
				}
				wantLone(t, fmt.Sprint(what, vars, blocks), program(wide), c)
			}
		}
	}
}

// TestAllAsked: as many variables as there may be are needed in as many blocks as there may be, that lead on in an order of their own.
func TestAllAsked(t *testing.T) {
	const n, step = api.MaxBlocks, 1237 // no divisor of the number of blocks
	c := mainOf(api.MaxVars)
	c.Blocks = make([][]api.Instr, n)
	at := 0
	for range n - 1 {
		to := (at + step) % n
		c.Blocks[at] = block(calc(at, at, "+", to), choose(at, to, to))
		at = to
	}
	c.Blocks[at] = block(calc(0, 0, "+", api.MaxVars-1), show(0), choose(0, 0, at))
	for v := range 999 {
		c.Blocks[at] = append(block(calc(n+v, n+v, "+", v)), c.Blocks[at]...)
	}
	p := program(c)
	if errno := vm.Check(machine(t, "all", p)); errno != api.OK {
		t.Error(errno)
	}
	wantSame(t, "all", p, 0, 20000)
}

// TestAllLead: each block leads to each one, and asks variables of its own.
func TestAllLead(t *testing.T) {
	const n = api.MaxBlocks
	c := mainOf(api.MaxVars)
	for b := range n {
		c.Blocks = append(c.Blocks, block(calc(n, n, "+", b), calc(n+b/2, n+b/2, "-", b), pick(n, upTo(n)...)))
	}
	p := program(c)
	wantSame(t, "all", p, 0, 1000)
}
