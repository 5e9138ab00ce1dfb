package rt_test

import (
	"fmt"
	"slices"
	"testing"

	"postern/api"
	"postern/emit"
	"postern/ir"
	"postern/rt"
)

// head of a function.
type head struct {
	name            string
	params, results int
}

var heads = []head{
	{"_cat", 4, 2}, {"_same", 4, 1}, {"_less", 4, 1}, {"_add", 4, 3}, {"_map", 0, 1},
	{"_find", 2, 1}, {"_get", 2, 1}, {"_put", 3, 0}, {"_drop", 2, 0}, {"_rune", 3, 2},
}

func TestHeads(t *testing.T) {
	var got []head
	for _, c := range rt.All() {
		got = append(got, head{c.Name, c.Params, c.Results})
	}
	if !slices.Equal(got, heads) {
		t.Errorf("%v, want %v", got, heads)
	}
}

func TestCodeMayBe(t *testing.T) {
	p := api.Program{Funcs: rt.All()}
	for _, c := range p.Funcs {
		if errno := ir.CheckCode(p, c); errno != api.OK {
			t.Errorf("%s: %v", c.Name, errno)
		}
	}
	if errno := ir.Check(program(nil, func(*emit.Maker) {})); errno != api.OK {
		t.Error(errno)
	}
}

func eachInstr(do func(c api.Code, in api.Instr)) {
	for _, c := range rt.All() {
		for _, b := range c.Blocks {
			for _, in := range b {
				do(c, in)
			}
		}
	}
}

func TestNothingPrinted(t *testing.T) {
	eachInstr(func(c api.Code, in api.Instr) {
		if in.Op == api.Show {
			t.Errorf("%s prints", c.Name)
		}
	})
}

// TestCalls: how deep calls are is seen in how a program ends.
func TestCalls(t *testing.T) {
	called := map[string]string{}
	eachInstr(func(c api.Code, in api.Instr) {
		if in.Op == api.Invoke {
			called[c.Name] += in.S
		}
	})
	for _, h := range heads {
		want := ""
		if h.name == "_get" || h.name == "_put" || h.name == "_drop" {
			want = "_find"
		}
		if called[h.name] != want {
			t.Errorf("%s calls %q, want %q", h.name, called[h.name], want)
		}
	}
}

// deepCall: a program that calls a function with numbers when so many calls wait for it, on a heap with an empty map.
func deepCall(h head, deep int, args []int) api.Program {
	p := program([]int{0, 1, 4, 0, 0, 0, 0}, func(m *emit.Maker) { call(m, "deep", 0, deep) })
	p.Funcs = append(p.Funcs, emit.Function("deep", 1, 0, func(m *emit.Maker, params []int) {
		m.When(m.Math(params[0], ">", m.Num(2)), func() {
			m.Call("deep", 0, m.Math(params[0], "-", m.Num(1)))
			m.Back()
		})
		call(m, h.name, h.results, args...)
		m.Back()
	}))
	return p
}

// TestDeepCalls: what looks for a key needs a call more than all others.
func TestDeepCalls(t *testing.T) {
	args := [][]int{{1, 2, 2, 1}, {1, 2, 2, 2}, {1, 2, 2, 2}, {1, 0, 0, 5}, {}, {0, 5}, {0, 5}, {0, 5, 6}, {0, 5}, {0, 1, 0}}
	for i, h := range heads {
		calls := 1
		if h.name == "_get" || h.name == "_put" || h.name == "_drop" {
			calls = 2
		}
		for deep := api.MaxCalls - 3; deep <= api.MaxCalls; deep++ {
			want := api.Done
			if deep+calls > api.MaxCalls {
				want = api.BadDeep
			}
			got, errno := ir.Run(deepCall(h, deep, args[i]), 50, api.MaxFuel)
			if errno != api.OK || got.End != want {
				t.Errorf("%s, when %d calls wait: %d, %v; want %d", h.name, deep, got.End, errno, want)
			}
		}
	}
}

// TestSmall: code of this size is refused by no layer.
func TestSmall(t *testing.T) {
	for _, c := range rt.All() {
		instrs := 0
		for _, b := range c.Blocks {
			instrs += len(b)
		}
		if len(c.Blocks) > 20 || c.Vars > 40 || instrs > 100 {
			t.Errorf("%s: %d blocks, %d variables, %d instructions", c.Name, len(c.Blocks), c.Vars, instrs)
		}
	}
}

// claim the memory of a list, its spare room too.
func claim[T any](t *testing.T, mine map[any]bool, l []T) {
	t.Helper()
	l = l[:cap(l)]
	for i := range l {
		if mine[&l[i]] {
			t.Fatal("memory is shared")
		}
		mine[&l[i]] = true
	}
}

func TestNewMemory(t *testing.T) {
	mine := map[any]bool{}
	for range 2 {
		funcs := rt.All()
		claim(t, mine, funcs)
		for _, c := range funcs {
			claim(t, mine, c.Blocks)
			for _, b := range c.Blocks {
				claim(t, mine, b)
				for _, in := range b {
					claim(t, mine, in.Ds)
					claim(t, mine, in.As)
					claim(t, mine, in.To)
				}
			}
		}
	}
	if a, b := fmt.Sprint(rt.All()), fmt.Sprint(rt.All()); a != b {
		t.Error("not the same twice")
	}
}
