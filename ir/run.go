package ir

import (
	"slices"

	"postern/api"
	"postern/calc"
)

// goesOn: no way in which a run ends.
const goesOn = 0

// machine does a program that may be.
type machine struct {
	funcs  []api.Code
	places map[string]int // of functions, by name
	heap   []int
	room   int // so many words the heap can have
	lines  []string
	calls  []call // that wait for each other; the last one is being done
	vars   []int  // of all calls, one behind the other
}

// call of a function.
type call struct {
	blocks  [][]api.Instr
	next    []api.Instr // what is left of the block that is being done
	first   int         // its variables begin there
	results []int       // variables of the call that it goes back to
}

// newMachine, on which the first function is called.
func newMachine(p api.Program, room int) *machine {
	m := &machine{funcs: p.Funcs, places: placesOf(p.Funcs), heap: slices.Clone(p.Data), room: room}
	m.begin(p.Funcs[0], nil, nil)
	return m
}

// run so many steps at most; how it ends.
func (m *machine) run(fuel int) int {
	for range fuel {
		if end := m.step(); end != goesOn {
			return end
		}
	}
	return api.Spent
}

func (m *machine) step() int {
	c := m.last()
	in := c.next[0]
	c.next = c.next[1:]
	switch in.Op {
	case api.Const, api.Move, api.Math, api.Load, api.Alloc:
		n, end := m.value(in)
		if end == goesOn {
			m.set(in.Ds[0], n)
		}
		return end
	case api.Store:
		return m.store(m.get(in.As[0]), in.N, m.get(in.As[1]))
	case api.Show:
		return m.show(in)
	case api.Invoke:
		return m.invoke(in)
	case api.Back:
		return m.back(in.As)
	case api.Fail:
		return in.N
	}
	c.next = c.blocks[in.To[m.way(in)]]
	return goesOn
}

// value of an instruction that has one result, and whether the run ends by that.
func (m *machine) value(in api.Instr) (int, int) {
	switch in.Op {
	case api.Const:
		return in.N, goesOn
	case api.Math:
		n, ok := calc.Two(m.get(in.As[0]), in.S, m.get(in.As[1]))
		if !ok {
			return 0, api.BadZero
		}
		return n, goesOn
	case api.Load:
		return m.load(m.get(in.As[0]), in.N)
	case api.Alloc:
		return m.alloc(m.get(in.As[0]))
	}
	return m.get(in.As[0]), goesOn
}

// way: which one of its places an instruction goes on with.
func (m *machine) way(in api.Instr) int {
	switch in.Op {
	case api.Choose:
		if m.get(in.As[0]) == 0 {
			return 1
		}
	case api.Pick:
		last := len(in.To) - 1
		if n := m.get(in.As[0]); 0 <= n && n < last {
			return n
		}
		return last
	}
	return 0
}

func (m *machine) last() *call { return &m.calls[len(m.calls)-1] }

// get and set variables of the call that is being done.
func (m *machine) get(v int) int { return m.vars[m.last().first+v] }

func (m *machine) set(v, n int) { m.vars[m.last().first+v] = n }

func (m *machine) invoke(in api.Instr) int {
	if len(m.calls) == api.MaxCalls {
		return api.BadDeep
	}
	m.begin(m.funcs[m.places[in.S]], in.As, in.Ds)
	return goesOn
}

// begin a call, with arguments of the one that is being done, and results there.
func (m *machine) begin(c api.Code, args, results []int) {
	first := len(m.vars)
	for _, a := range args {
		m.vars = append(m.vars, m.get(a))
	}
	m.vars = append(m.vars, make([]int, c.Vars-len(args))...)
	m.calls = append(m.calls, call{c.Blocks, c.Blocks[0], first, results})
}

// back from a call, with these variables of it.
func (m *machine) back(args []int) int {
	ended := *m.last()
	m.calls = m.calls[:len(m.calls)-1]
	if len(m.calls) == 0 {
		return api.Done
	}
	for i, a := range args {
		m.set(ended.results[i], m.vars[ended.first+a])
	}
	m.vars = m.vars[:ended.first]
	return goesOn
}
