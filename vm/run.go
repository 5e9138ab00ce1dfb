package vm

import (
	"postern/api"
	"postern/sound"
	"postern/step"
)

// machine does a program of machine code that may be.
type machine struct {
	funcs  []api.Code
	places map[string]int // of functions, by name
	state  *step.State
	calls  []call // that wait for each other; the last one is being done
	slots  []int  // of all calls, one behind the other
}

// call of a function.
type call struct {
	blocks [][]api.Instr
	next   []api.Instr // what is left of the block that is being done
	regs   [api.Regs]int
	first  int             // its slots begin there
	give   func(at, n int) // a result, to the call that it goes back to
}

// newMachine, on which the first function is called.
func newMachine(p api.Program, room int) *machine {
	m := &machine{funcs: p.Funcs, places: sound.Places(p.Funcs), state: step.New(p.Data, room)}
	m.begin(p.Funcs[0], nil, nil)
	return m
}

// run so many steps at most; how it ends.
func (m *machine) run(fuel int) int {
	for range fuel {
		if end := m.step(); end != step.GoesOn {
			return end
		}
	}
	return api.Spent
}

func (m *machine) step() int {
	c := &m.calls[len(m.calls)-1]
	in := c.next[0]
	c.next = c.next[1:]
	get := func(r int) int { return c.regs[r] }
	set := func(n int) { c.regs[in.Ds[0]] = n }
	switch in.Op {
	case api.LoadSlot:
		set(m.slots[c.first+in.N])
		return step.GoesOn
	case api.StoreSlot:
		m.slots[c.first+in.N] = get(in.As[0])
		return step.GoesOn
	case api.Invoke:
		return m.invoke(in, c.first)
	case api.Back:
		return m.back(in.As)
	case api.Jump, api.Choose, api.Pick:
		c.next = c.blocks[in.To[step.Way(in, get)]]
		return step.GoesOn
	}
	return m.state.Do(in, get, set)
}

// invoke a function, from a call whose slots begin there.
func (m *machine) invoke(in api.Instr, first int) int {
	if len(m.calls) == api.MaxCalls {
		return api.BadDeep
	}
	args := make([]int, len(in.As))
	for i, a := range in.As {
		args[i] = m.slots[first+a]
	}
	m.begin(m.funcs[m.places[in.S]], args, func(at, n int) { m.slots[first+in.Ds[at]] = n })
	return step.GoesOn
}

// begin a call.
func (m *machine) begin(c api.Code, args []int, give func(at, n int)) {
	first := len(m.slots)
	m.slots = append(append(m.slots, args...), make([]int, c.Slots-len(args))...)
	m.calls = append(m.calls, call{blocks: c.Blocks, next: c.Blocks[0], first: first, give: give})
}

// back from a call, with these slots of it.
func (m *machine) back(args []int) int {
	ended := m.calls[len(m.calls)-1]
	m.calls = m.calls[:len(m.calls)-1]
	if len(m.calls) == 0 {
		return api.Done
	}
	for i, a := range args {
		ended.give(i, m.slots[ended.first+a])
	}
	m.slots = m.slots[:ended.first]
	return step.GoesOn
}
