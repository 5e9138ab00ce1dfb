package alloc

import (
	"slices"

	"postern/api"
)

// homes of variables: a register, a slot, or both, where a slot must be passed on or is given. Each slot is that of one variable alone: so it is 0 till that is set.
type homes struct {
	needs
	regs  map[int]int
	slots map[int]int
}

// homesOf variables that are needed so, with so many registers at most.
func homesOf(c api.Code, n needs, most int) homes {
	h := homes{needs: n, regs: map[int]int{}, slots: map[int]int{}}
	h.giveRegs(most)
	for v := range c.Params {
		h.slots[v] = v
	}
	for v := c.Params; v < c.Vars; v++ {
		u := n.uses[v]
		if _, ok := h.regs[v]; u.passed+u.given > 0 || !ok && u.asked+u.set > 0 {
			h.slots[v] = len(h.slots)
		}
	}
	return h
}

// giveRegs to variables, one after the other; each has one as long as it is needed. Where there are too many at once, the one that gains least has none.
func (h homes) giveRegs(most int) {
	var have []int // those that have one at this point
	for _, v := range h.wants {
		have = slices.DeleteFunc(have, func(a int) bool { return h.spans[a].to < h.spans[v].from })
		if len(have) < most {
			h.regs[v] = h.free(have)
			have = append(have, v)
			continue
		}
		least := slices.MinFunc(have, h.compare)
		if h.compare(v, least) > 0 {
			h.regs[v] = h.regs[least]
			delete(h.regs, least)
			have[slices.Index(have, least)] = v
		}
	}
}

// free: the first register that none of some variables has.
func (h homes) free(have []int) int {
	r := 0
	for slices.ContainsFunc(have, func(v int) bool { return h.regs[v] == r }) {
		r++
	}
	return r
}
