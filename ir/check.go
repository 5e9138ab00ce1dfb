package ir

import (
	"postern/api"
	"postern/sound"
)

// countsOf each operator.
var countsOf = [...]sound.Counts{
	api.Const:  {Results: 1},
	api.Move:   {Results: 1, Args: 1},
	api.Math:   {Results: 1, Args: 2},
	api.Load:   {Results: 1, Args: 1},
	api.Store:  {Args: 2},
	api.Alloc:  {Results: 1, Args: 1},
	api.Invoke: {Results: sound.Any, Args: sound.Any},
	api.Show:   {Args: sound.Any},
	api.Jump:   {Places: 1},
	api.Choose: {Args: 1, Places: 2},
	api.Pick:   {Args: 1, Places: sound.Some},
	api.Back:   {Args: sound.Any},
	api.Fail:   {},
}

// rules of code.
func rules() sound.Rules {
	return sound.Rules{
		Counts: func(op int) (sound.Counts, bool) {
			if op < api.Const || op > api.Fail {
				return sound.Counts{}, false
			}
			return countsOf[op], true
		},
		Big: func(c api.Code) bool { return c.Vars > api.MaxVars },
		Off: func(c api.Code) bool { return c.Vars < c.Params || c.Slots != 0 },
		Has: func(c api.Code, in api.Instr) bool {
			return sound.All(c.Vars, in.Ds) && sound.All(c.Vars, in.As)
		},
		Instrs: api.MaxInstrs,
	}
}
