package vm

import (
	"postern/api"
	"postern/sound"
)

// countsOf each operator.
func countsOf() map[int]sound.Counts {
	return map[int]sound.Counts{
		api.Const:     {Results: 1},
		api.Move:      {Results: 1, Args: 1},
		api.Math:      {Results: 1, Args: 2},
		api.Load:      {Results: 1, Args: 1},
		api.Store:     {Args: 2},
		api.Alloc:     {Results: 1, Args: 1},
		api.Invoke:    {Results: sound.Any, Args: sound.Any},
		api.Show:      {Args: sound.Any},
		api.Jump:      {Places: 1},
		api.Choose:    {Args: 1, Places: 2},
		api.Pick:      {Args: 1, Places: sound.Some},
		api.Back:      {Args: sound.Any},
		api.Fail:      {},
		api.LoadSlot:  {Results: 1},
		api.StoreSlot: {Args: 1},
	}
}

// rules of machine code.
func rules() sound.Rules {
	counts := countsOf()
	return sound.Rules{
		Counts: func(op int) (sound.Counts, bool) {
			n, ok := counts[op]
			return n, ok
		},
		Big:    func(c api.Code) bool { return c.Vars > api.Regs || c.Slots > api.MaxSlots },
		Off:    func(c api.Code) bool { return c.Vars < 0 || c.Slots < c.Params },
		Has:    has,
		Instrs: 6 * api.MaxInstrs,
	}
}

// has: are the registers and slots that an instruction names there?
func has(c api.Code, in api.Instr) bool {
	most := c.Vars
	switch in.Op {
	case api.Invoke, api.Back:
		most = c.Slots
	case api.LoadSlot, api.StoreSlot:
		if in.N < 0 || in.N >= c.Slots {
			return false
		}
	}
	return sound.All(most, in.Ds) && sound.All(most, in.As)
}
