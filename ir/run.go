package ir

import (
	"postern/api"
	"postern/sound"
	"postern/step"
)

// machine does a program that may be.
type machine struct {
	funcs  []api.Code
	places map[string]int // of functions, by name
	state  *step.State
	calls  []call // that wait for each other; the last one is being done
	vars   []int  // of all calls, one behind the other
}

// call of a function.
type call struct {
	blocks  [][]api.Instr
	next    []api.Instr // what is left of the block that is being done
	first   int         // its variables begin there
	results []int       // variables of the call that it goes back to
}

// newMachine, on which the first function is called.
func newMachine(p api.Program, room int) *machine {
	m := &machine{funcs: p.Funcs, places: sound.Places(p.Funcs), state: step.New(p.Data, room)}
	m.begin(p.Funcs[0], nil, nil)
	return m
}

// run so many steps at most; how it ends.
func (m *machine) run(fuel int) int {
	for range fuel {
		if end := m.step(); end != step.GoesOn {
			return end
		}
	}
	return api.Spent
}

func (m *machine) step() int {
	c := m.last()
	in := c.next[0]
	c.next = c.next[1:]
	switch in.Op {
	case api.Invoke:
		return m.invoke(in)
	case api.Back:
		return m.back(in.As)
	case api.Jump, api.Choose, api.Pick:
		c.next = c.blocks[in.To[step.Way(in, m.get)]]
		return step.GoesOn
	}
	return m.state.Do(in, m.get, func(n int) { m.set(in.Ds[0], n) })
}

func (m *machine) last() *call { return &m.calls[len(m.calls)-1] }

// get and set variables of the call that is being done.
func (m *machine) get(v int) int { return m.vars[m.last().first+v] }

func (m *machine) set(v, n int) { m.vars[m.last().first+v] = n }

func (m *machine) invoke(in api.Instr) int {
	if len(m.calls) == api.MaxCalls {
		return api.BadDeep
	}
	m.begin(m.funcs[m.places[in.S]], in.As, in.Ds)
	return step.GoesOn
}

// begin a call, with arguments of the one that is being done, and results there.
func (m *machine) begin(c api.Code, args, results []int) {
	first := len(m.vars)
	for _, a := range args {
		m.vars = append(m.vars, m.get(a))
	}
	m.vars = append(m.vars, make([]int, c.Vars-len(args))...)
	m.calls = append(m.calls, call{c.Blocks, c.Blocks[0], first, results})
}

// back from a call, with these variables of it.
func (m *machine) back(args []int) int {
	ended := *m.last()
	m.calls = m.calls[:len(m.calls)-1]
	if len(m.calls) == 0 {
		return api.Done
	}
	for i, a := range args {
		m.set(ended.results[i], m.vars[ended.first+a])
	}
	m.vars = m.vars[:ended.first]
	return step.GoesOn
}
