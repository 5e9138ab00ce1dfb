// Package emit makes the code of a function: its variables, its blocks, and what stands in them.
package emit

import (
	"slices"

	"postern/api"
)

// Maker of the code of a function.
type Maker struct {
	code   api.Code
	here   int  // the block that is being filled
	ended  bool // nothing more comes into it
	next   int  // the first variable that is free
	instrs int  // so many there are
}

// Function: the code of one with so many params and results, as body makes it of its params.
func Function(name string, params, results int, body func(m *Maker, params []int)) api.Code {
	m := &Maker{code: api.Code{Name: name, Params: params, Results: results}}
	m.fill(m.block())
	body(m, m.Fresh(params))
	return m.code
}

// Fresh variables, so many.
func (m *Maker) Fresh(n int) []int {
	vars := make([]int, n)
	for i := range vars {
		vars[i] = m.next
		m.next++
	}
	m.code.Vars = max(m.code.Vars, m.next)
	return vars
}

// Freeing: what is made by do is not needed behind it, and its variables are fresh ones again.
func (m *Maker) Freeing(do func()) {
	first := m.next
	do()
	m.next = first
}

// Open: does an instruction count that comes next? What would stand behind the end of a block is never done, and when there are more than a function may have, no more are needed to see that.
func (m *Maker) Open() bool { return !m.ended && m.instrs <= api.MaxInstrs }

// Do an instruction next.
func (m *Maker) Do(in api.Instr) {
	if m.Open() {
		m.code.Blocks[m.here] = append(m.code.Blocks[m.here], in)
		m.instrs++
	}
}

// end the block by an instruction.
func (m *Maker) end(in api.Instr) {
	m.Do(in)
	m.ended = true
}

// into a variable: what an instruction makes.
func (m *Maker) into(d int, in api.Instr) {
	in.Ds = []int{d}
	m.Do(in)
}

// value: a fresh variable that an instruction sets.
func (m *Maker) value(in api.Instr) int {
	d := m.Fresh(1)[0]
	m.into(d, in)
	return d
}

// Num: a variable that is a number.
func (m *Maker) Num(n int) int { return m.value(number(n)) }

// SetNum: a variable is a number from then on.
func (m *Maker) SetNum(v, n int) { m.into(v, number(n)) }

func number(n int) api.Instr { return api.Instr{Op: api.Const, N: n} }

// Copy: a variable that begins as another one is.
func (m *Maker) Copy(v int) int { return m.value(move(v)) }

// Set a variable to what another one is.
func (m *Maker) Set(v, to int) { m.into(v, move(to)) }

func move(v int) api.Instr { return api.Instr{Op: api.Move, As: []int{v}} }

// Math: a variable that is what an operator makes of two.
func (m *Maker) Math(a int, op string, b int) int { return m.value(math(a, op, b)) }

// SetMath: a variable is what an operator makes of two.
func (m *Maker) SetMath(v, a int, op string, b int) { m.into(v, math(a, op, b)) }

// Change a variable to what an operator makes of it and another one.
func (m *Maker) Change(v int, op string, by int) { m.SetMath(v, v, op, by) }

func math(a int, op string, b int) api.Instr {
	return api.Instr{Op: api.Math, S: op, As: []int{a, b}}
}

// Load: a variable that is the word n behind an address.
func (m *Maker) Load(address, n int) int { return m.value(load(address, n)) }

// SetLoad: a variable is the word n behind an address.
func (m *Maker) SetLoad(v, address, n int) { m.into(v, load(address, n)) }

func load(address, n int) api.Instr {
	return api.Instr{Op: api.Load, As: []int{address}, N: n}
}

// Store a value as the word n behind an address.
func (m *Maker) Store(address, n, value int) {
	m.Do(api.Instr{Op: api.Store, As: []int{address, value}, N: n})
}

// Alloc: the address of so many new words.
func (m *Maker) Alloc(words int) int { return m.value(alloc(words)) }

// SetAlloc: a variable is the address of so many new words.
func (m *Maker) SetAlloc(v, words int) { m.into(v, alloc(words)) }

func alloc(words int) api.Instr { return api.Instr{Op: api.Alloc, As: []int{words}} }

// Call a function; its results.
func (m *Maker) Call(name string, results int, args ...int) []int {
	ds := m.Fresh(results)
	m.SetCall(ds, name, args...)
	return ds
}

// SetCall: variables are the results of a call.
func (m *Maker) SetCall(vars []int, name string, args ...int) {
	m.Do(api.Instr{Op: api.Invoke, S: name, Ds: slices.Clone(vars), As: slices.Clone(args)})
}

// Show variables, as what they are.
func (m *Maker) Show(as string, vars ...int) {
	m.Do(api.Instr{Op: api.Show, S: as, As: slices.Clone(vars)})
}

// Back to what called the function, with results.
func (m *Maker) Back(results ...int) {
	m.end(api.Instr{Op: api.Back, As: slices.Clone(results)})
}

// Fail: the run ends so.
func (m *Maker) Fail(how int) { m.end(api.Instr{Op: api.Fail, N: how}) }
