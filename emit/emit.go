// Package emit makes the code of a function: its variables, its blocks, and what stands in them.
package emit

import (
	"slices"

	"postern/api"
)

// Maker of the code of a function.
type Maker struct {
	code  api.Code
	here  int  // the block that is being filled
	ended bool // nothing more comes into it
}

// Function: the code of one with so many params and results, as body makes it of its params.
func Function(name string, params, results int, body func(m *Maker, params []int)) api.Code {
	m := &Maker{code: api.Code{Name: name, Params: params, Results: results}}
	m.fill(m.block())
	body(m, m.fresh(params))
	return m.code
}

// fresh variables, so many.
func (m *Maker) fresh(n int) []int {
	vars := make([]int, n)
	for i := range vars {
		vars[i] = m.code.Vars
		m.code.Vars++
	}
	return vars
}

// block: the place of a new one.
func (m *Maker) block() int {
	m.code.Blocks = append(m.code.Blocks, nil)
	return len(m.code.Blocks) - 1
}

// fill a block from now on.
func (m *Maker) fill(block int) {
	m.here, m.ended = block, false
}

// Do an instruction next; what would stand behind the end of a block is never done, and left out.
func (m *Maker) Do(in api.Instr) {
	if !m.ended {
		m.code.Blocks[m.here] = append(m.code.Blocks[m.here], in)
	}
}

// end the block by an instruction.
func (m *Maker) end(in api.Instr) {
	m.Do(in)
	m.ended = true
}

// value: a fresh variable that an instruction sets.
func (m *Maker) value(in api.Instr) int {
	in.Ds = m.fresh(1)
	m.Do(in)
	return in.Ds[0]
}

// Num: a variable that is a number.
func (m *Maker) Num(n int) int {
	return m.value(api.Instr{Op: api.Const, N: n})
}

// Copy: a variable that begins as another one is.
func (m *Maker) Copy(v int) int {
	return m.value(api.Instr{Op: api.Move, As: []int{v}})
}

// Set a variable to what another one is.
func (m *Maker) Set(v, to int) {
	m.Do(api.Instr{Op: api.Move, Ds: []int{v}, As: []int{to}})
}

// SetNum: a variable is a number from then on.
func (m *Maker) SetNum(v, n int) {
	m.Do(api.Instr{Op: api.Const, Ds: []int{v}, N: n})
}

// Math: a variable that is what an operator makes of two.
func (m *Maker) Math(a int, op string, b int) int {
	return m.value(api.Instr{Op: api.Math, S: op, As: []int{a, b}})
}

// Change a variable to what an operator makes of it and another one.
func (m *Maker) Change(v int, op string, by int) {
	m.Do(api.Instr{Op: api.Math, S: op, Ds: []int{v}, As: []int{v, by}})
}

// Load: a variable that is the word n behind an address.
func (m *Maker) Load(address, n int) int {
	return m.value(api.Instr{Op: api.Load, As: []int{address}, N: n})
}

// Store a value as the word n behind an address.
func (m *Maker) Store(address, n, value int) {
	m.Do(api.Instr{Op: api.Store, As: []int{address, value}, N: n})
}

// Alloc: the address of so many new words.
func (m *Maker) Alloc(words int) int {
	return m.value(api.Instr{Op: api.Alloc, As: []int{words}})
}

// Call a function; its results.
func (m *Maker) Call(name string, results int, args ...int) []int {
	ds := m.fresh(results)
	m.Do(api.Instr{Op: api.Invoke, S: name, Ds: slices.Clone(ds), As: slices.Clone(args)})
	return ds
}

// When a variable is not 0 something is done first.
func (m *Maker) When(v int, then func()) {
	inside, behind := m.block(), m.block()
	m.choose(v, inside, behind)
	m.fill(inside)
	then()
	m.end(api.Instr{Op: api.Jump, To: []int{behind}})
	m.fill(behind)
}

// While what is asked is not 0 a round is done. It is asked ahead of the first round and behind each, not at one place: so no round needs a jump more.
func (m *Maker) While(ask func() int, round func()) {
	inside, behind := m.block(), m.block()
	m.choose(ask(), inside, behind)
	m.fill(inside)
	round()
	m.choose(ask(), inside, behind)
	m.fill(behind)
}

// choose the block to go on with.
func (m *Maker) choose(v, yes, no int) {
	m.end(api.Instr{Op: api.Choose, As: []int{v}, To: []int{yes, no}})
}

// Back to what called the function, with results.
func (m *Maker) Back(results ...int) {
	m.end(api.Instr{Op: api.Back, As: slices.Clone(results)})
}
