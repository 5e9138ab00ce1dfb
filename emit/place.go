package emit

import "postern/api"

// Place that instructions lead to. It gets a block when the first one does; 0, as nothing leads to the first block: it has none.
type Place struct{ block int }

// block: the number of a new one.
func (m *Maker) block() int {
	m.code.Blocks = append(m.code.Blocks, nil)
	return len(m.code.Blocks) - 1
}

// fill a block from now on.
func (m *Maker) fill(block int) {
	m.here, m.ended = block, false
}

// leave the block by an instruction that leads to places.
func (m *Maker) leave(in api.Instr, to ...*Place) {
	if !m.Open() {
		return
	}
	for _, p := range to {
		if p.block == 0 {
			p.block = m.block()
		}
		in.To = append(in.To, p.block)
	}
	m.end(in)
}

// Jump to a place.
func (m *Maker) Jump(to *Place) { m.leave(api.Instr{Op: api.Jump}, to) }

// Choose the first place, if a variable is not 0, else the second one.
func (m *Maker) Choose(v int, yes, no *Place) {
	m.leave(api.Instr{Op: api.Choose, As: []int{v}}, yes, no)
}

// Pick the place whose number a variable is, or the last one.
func (m *Maker) Pick(v int, to ...*Place) {
	m.leave(api.Instr{Op: api.Pick, As: []int{v}}, to...)
}

// Here is a place: what comes next stands there. Where nothing leads to, all goes on as without it.
func (m *Maker) Here(p *Place) {
	if p.block != 0 {
		m.Jump(p)
		m.fill(p.block)
	}
}

// When a variable is not 0 something is done first.
func (m *Maker) When(v int, then func()) {
	var inside, behind Place
	m.Choose(v, &inside, &behind)
	m.Here(&inside)
	then()
	m.Here(&behind)
}

// While what is asked is not 0 a round is done. It is asked ahead of the first round and behind each, not at one place: so no round needs a jump more.
func (m *Maker) While(ask func() int, round func()) {
	var inside, behind Place
	m.Choose(ask(), &inside, &behind)
	m.Here(&inside)
	round()
	m.Choose(ask(), &inside, &behind)
	m.Here(&behind)
}
