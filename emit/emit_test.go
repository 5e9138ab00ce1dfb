package emit_test

import (
	"slices"
	"strconv"
	"testing"

	"postern/api"
	"postern/emit"
	"postern/ir"
)

func show(m *emit.Maker, vars ...int) {
	for _, v := range vars {
		m.Do(api.Instr{Op: api.Show, S: "int", As: []int{v}})
	}
}

// wantShown: what a first function shows, as body makes it, with others beside it.
func wantShown(t *testing.T, what string, body func(m *emit.Maker), others []api.Code, want ...int) {
	t.Helper()
	first := emit.Function("main", 0, 0, func(m *emit.Maker, _ []int) {
		body(m)
		m.Back()
	})
	got, errno := ir.Run(api.Program{Funcs: append([]api.Code{first}, others...)}, 100, api.MaxFuel)
	var lines []string
	for _, n := range want {
		lines = append(lines, strconv.Itoa(n))
	}
	if errno != api.OK || got.End != api.Done || !slices.Equal(got.Lines, lines) {
		t.Errorf("%s: %v, %d, %v; want %v", what, got.Lines, got.End, errno, want)
	}
}

func TestHead(t *testing.T) {
	c := emit.Function("f", 3, 2, func(m *emit.Maker, params []int) {
		if !slices.Equal(params, []int{0, 1, 2}) {
			t.Errorf("params %v", params)
		}
		m.Back(m.Num(7), params[1])
	})
	if c.Name != "f" || c.Params != 3 || c.Results != 2 || c.Vars != 4 || c.Slots != 0 {
		t.Errorf("%+v", c)
	}
	if errno := ir.CheckCode(api.Program{}, c); errno != api.OK {
		t.Error(errno)
	}
}

func TestValues(t *testing.T) {
	wantShown(t, "numbers", func(m *emit.Maker) {
		a, b := m.Num(7), m.Num(-2)
		c := m.Copy(a)
		show(m, a, b, c, m.Math(a, "/", b), m.Math(b, "-", a))
		m.Set(a, b)
		m.SetNum(b, 5)
		show(m, a, b, c)
		m.Change(c, "-", b)
		show(m, a, b, c)
	}, nil, 7, -2, 7, -3, -9, -2, 5, 7, -2, 5, 2)
	wantShown(t, "words", func(m *emit.Maker) {
		three := m.Num(3)
		a, b := m.Alloc(three), m.Alloc(three)
		m.Store(b, 1, three)
		m.Store(a, 2, m.Num(8))
		show(m, a, b, m.Load(a, 4), m.Load(b, 1), m.Load(b, -1), m.Load(b, 0))
	}, nil, 0, 3, 3, 3, 8, 0)
}

func TestCalls(t *testing.T) {
	swap := emit.Function("swap", 2, 2, func(m *emit.Maker, params []int) { m.Back(params[1], params[0]) })
	idle := emit.Function("idle", 0, 0, func(m *emit.Maker, _ []int) { m.Back() })
	wantShown(t, "results", func(m *emit.Maker) {
		args := []int{m.Num(1), m.Num(2)}
		show(m, m.Call("swap", 2, args...)...)
		show(m, m.Call("idle", 0)...)
		show(m, args...)
	}, []api.Code{swap, idle}, 2, 1, 1, 2)
}

func TestWhen(t *testing.T) {
	for _, n := range []int{0, 1, -1, 5} {
		want := []int{3}
		if n != 0 {
			want = []int{n, 3}
		}
		wantShown(t, "when", func(m *emit.Maker) {
			v := m.Num(n)
			m.When(v, func() { show(m, v) })
			show(m, m.Num(3))
		}, nil, want...)
		wantShown(t, "within another one", func(m *emit.Maker) {
			v := m.Num(n)
			m.When(m.Num(1), func() { m.When(v, func() { show(m, v) }) })
			m.When(m.Num(0), func() { m.When(v, func() { show(m, v) }) })
			show(m, m.Num(3))
		}, nil, want...)
	}
}

// TestBehindBack: what can't be done is left out, the end of a branch too.
func TestBehindBack(t *testing.T) {
	for n, want := range [][]int{{4, 5}, {3}} {
		wantShown(t, "back", func(m *emit.Maker) {
			v, three := m.Num(n), m.Num(3)
			m.When(v, func() {
				show(m, three)
				m.Back()
				show(m, three)
				m.Back()
			})
			show(m, m.Num(4), m.Num(5))
		}, nil, want...)
	}
}

func TestWhile(t *testing.T) {
	for n := range 4 {
		var want []int
		for i := range n {
			for range i {
				want = append(want, i)
			}
		}
		wantShown(t, "rounds in rounds", func(m *emit.Maker) {
			one, most, i := m.Num(1), m.Num(n), m.Num(0)
			m.While(func() int { return m.Math(i, "<", most) }, func() {
				left := m.Copy(i)
				m.While(func() int { return left }, func() {
					show(m, i)
					m.Change(left, "-", one)
				})
				m.Change(i, "+", one)
			})
		}, nil, want...)
	}
}

// TestRounds: no round has a jump beside the one that asks.
func TestRounds(t *testing.T) {
	c := emit.Function("f", 1, 0, func(m *emit.Maker, params []int) {
		m.While(func() int { return params[0] }, func() { m.Change(params[0], "-", params[0]) })
		m.Back()
	})
	if len(c.Blocks) != 3 || len(c.Blocks[0]) != 1 || len(c.Blocks[1]) != 2 || len(c.Blocks[2]) != 1 {
		t.Errorf("%v", c.Blocks)
	}
}

// TestOwnLists: what is made keeps no list that was handed in, or out.
func TestOwnLists(t *testing.T) {
	list := []int{0, 1}
	c := emit.Function("f", 2, 2, func(m *emit.Maker, params []int) {
		results := m.Call("f", 2, list...)
		results[0], list[0] = 9, 9
		m.Back(list...)
		list[1], params[0] = 9, 9
	})
	call, back := c.Blocks[0][0], c.Blocks[0][1]
	if !slices.Equal(call.As, []int{0, 1}) || !slices.Equal(call.Ds, []int{2, 3}) || !slices.Equal(back.As, []int{9, 1}) {
		t.Errorf("%+v", c)
	}
}
