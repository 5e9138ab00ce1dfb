package emit_test

import (
	"slices"
	"testing"

	"postern/api"
	"postern/emit"
	"postern/ir"
)

func TestChosen(t *testing.T) {
	for n, want := range map[int]int{0: 20, 1: 10, -1: 10, 7: 10} {
		wantShown(t, "two ways", func(m *emit.Maker) {
			var yes, no, behind emit.Place
			m.Choose(m.Num(n), &yes, &no)
			m.Here(&yes)
			show(m, m.Num(10))
			m.Jump(&behind)
			m.Here(&no)
			show(m, m.Num(20))
			m.Here(&behind)
			show(m, m.Num(30))
		}, nil, want, 30)
	}
}

func TestPicked(t *testing.T) {
	for n, want := range map[int]int{0: 0, 1: 1, 2: 0, 3: 2, 4: 2, -1: 2, 99: 2} {
		wantShown(t, "a table", func(m *emit.Maker) {
			places := make([]emit.Place, 3)
			var behind emit.Place
			m.Pick(m.Num(n), &places[0], &places[1], &places[0], &places[2])
			for i := range places {
				m.Here(&places[i])
				show(m, m.Num(i))
				m.Jump(&behind)
			}
			m.Here(&behind)
		}, nil, want)
	}
}

// TestLoop: a place may be led to ahead of it and behind it.
func TestLoop(t *testing.T) {
	wantShown(t, "a loop", func(m *emit.Maker) {
		var again, inside, behind emit.Place
		one, i := m.Num(1), m.Num(0)
		m.Jump(&again)
		m.Here(&again)
		m.Choose(m.Math(i, "<", m.Num(3)), &inside, &behind)
		m.Here(&inside)
		show(m, i)
		m.Change(i, "+", one)
		m.Jump(&again)
		m.Here(&behind)
		show(m, m.Num(9))
	}, nil, 0, 1, 2, 9)
}

// TestNowhere: where nothing leads to there is no block, and what can't be done is left out, all of it.
func TestNowhere(t *testing.T) {
	c := emit.Function("f", 1, 0, func(m *emit.Maker, params []int) {
		var unused, yes, no, loop, behind emit.Place
		m.Here(&unused)
		if !m.Open() {
			t.Error("nothing ended it")
		}
		m.Back()
		if m.Open() {
			t.Error("it has ended")
		}
		m.Here(&unused)
		m.Choose(params[0], &yes, &no)
		m.Here(&yes)
		m.Num(1)
		m.Jump(&behind)
		m.Here(&no)
		m.Jump(&loop)
		m.Here(&loop)
		m.Pick(params[0], &loop, &behind)
		m.Here(&behind)
		m.When(params[0], func() { m.Fail(api.BadAt) })
		m.While(func() int { return params[0] }, func() { m.Num(3) })
		m.Back()
		if m.Open() {
			t.Error("nothing leads there")
		}
	})
	if len(c.Blocks) != 1 || len(c.Blocks[0]) != 1 {
		t.Errorf("%v", c.Blocks)
	}
}

func TestFail(t *testing.T) {
	for end := api.BadAt; end <= api.BadRoom; end++ {
		c := emit.Function("main", 0, 0, func(m *emit.Maker, _ []int) {
			show(m, m.Num(1))
			m.Fail(end)
			show(m, m.Num(2))
		})
		r, errno := ir.Run(api.Program{Funcs: []api.Code{c}}, 0, api.MaxFuel)
		if errno != api.OK || r.End != end || !slices.Equal(r.Lines, []string{"1"}) {
			t.Errorf("%d: %v, %v", end, r, errno)
		}
	}
}

func TestShow(t *testing.T) {
	c := emit.Function("main", 0, 0, func(m *emit.Maker, _ []int) {
		a, b := m.Num(0), m.Num(2)
		m.Show("int", b)
		m.Show("bool", b)
		m.Show("text", a, b)
		m.Back()
	})
	r, errno := ir.Run(api.Program{Funcs: []api.Code{c}, Data: []int{104, 105}}, 2, api.MaxFuel)
	if errno != api.OK || !slices.Equal(r.Lines, []string{"2", "true", "hi"}) {
		t.Errorf("%v, %v", r, errno)
	}
}

// TestSetters: what sets a variable that is there already.
func TestSetters(t *testing.T) {
	swap := emit.Function("swap", 2, 2, func(m *emit.Maker, params []int) { m.Back(params[1], params[0]) })
	wantShown(t, "setters", func(m *emit.Maker) {
		vars := m.Fresh(3)
		m.SetNum(vars[0], 5)
		m.SetMath(vars[1], vars[0], "*", vars[0])
		show(m, vars...)
		m.SetAlloc(vars[2], vars[0])
		m.SetAlloc(vars[2], vars[0])
		m.Store(vars[2], 1, vars[1])
		m.SetLoad(vars[1], vars[0], 1)
		show(m, vars...)
		m.SetCall(vars[:2], "swap", vars[0], vars[2])
		show(m, vars...)
	}, []api.Code{swap}, 5, 25, 0, 5, 25, 5, 5, 5, 5)
}

// TestFreeing: variables that are not needed are fresh ones again; those that are needed are not.
func TestFreeing(t *testing.T) {
	c := emit.Function("f", 2, 0, func(m *emit.Maker, _ []int) {
		kept := m.Fresh(1)
		for range 10 {
			m.Freeing(func() {
				if got := m.Fresh(2); !slices.Equal(got, []int{3, 4}) {
					t.Error(got)
				}
				m.Freeing(func() { m.Fresh(3) })
				if got := m.Fresh(1); got[0] != 5 {
					t.Error(got)
				}
			})
		}
		if more := m.Fresh(1); kept[0] != 2 || more[0] != 3 {
			t.Error(kept, more)
		}
		m.Back()
	})
	if c.Vars != 8 {
		t.Errorf("%d variables", c.Vars)
	}
}

// TestTooMany: one instruction more than there may be tells that they are too many; what comes then takes no memory.
func TestTooMany(t *testing.T) {
	for _, many := range []int{api.MaxInstrs - 1, api.MaxInstrs, api.MaxInstrs + 1, 3 * api.MaxInstrs} {
		open := false
		c := emit.Function("f", 0, 0, func(m *emit.Maker, _ []int) {
			for range many {
				m.Freeing(func() { m.Num(1) })
			}
			open = m.Open()
			var place emit.Place
			m.Jump(&place)
			m.Here(&place)
		})
		got := 0
		for _, b := range c.Blocks {
			got += len(b)
		}
		if got != min(many+1, api.MaxInstrs+1) || open != (many <= api.MaxInstrs) {
			t.Errorf("%d: %d, %v", many, got, open)
		}
	}
}
