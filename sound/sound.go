// Package sound: whether programs may be, by the rules that code and machine code have in common; ir and vm both ask it, each with rules of its own beside them.
package sound

import "postern/api"

// Rules that code has of its own.
type Rules struct {
	Counts func(op int) (Counts, bool)         // of an operator; false: there is none
	Big    func(c api.Code) bool               // has it more variables than it can have?
	Off    func(c api.Code) bool               // has it fewer than it must have?
	Has    func(c api.Code, in api.Instr) bool // has it all variables that an instruction names?
	Instrs int                                 // a function has so many, at most
}

// Program of functions: may it be?
func (r Rules) Program(p api.Program) api.Errno {
	if len(p.Funcs) == 0 {
		return api.ErrNone
	}
	if len(p.Data) > api.MaxHeap || len(p.Funcs) > 2*api.MaxFuncs {
		return api.ErrSize
	}
	places := Places(p.Funcs)
	if len(places) < len(p.Funcs) {
		return api.ErrTwice
	}
	if first := p.Funcs[0]; first.Params+first.Results != 0 {
		return api.ErrCount
	}
	return each(p.Funcs, func(_ int, c api.Code) api.Errno {
		return r.code(p, places, c)
	})
}

// Code of a function, in a program: may it be?
func (r Rules) Code(p api.Program, c api.Code) api.Errno {
	return r.code(p, Places(p.Funcs), c)
}

// Places of functions by their names; of those that have one name, that of the first one.
func Places(fs []api.Code) map[string]int {
	places := map[string]int{}
	for i, c := range fs {
		if _, ok := places[c.Name]; !ok {
			places[c.Name] = i
		}
	}
	return places
}

// Ends: does an operator end a block?
func Ends(op int) bool { return api.Jump <= op && op <= api.Fail }

// each looks through a list, till something is wrong.
func each[T any](l []T, look func(at int, x T) api.Errno) api.Errno {
	for i, x := range l {
		if errno := look(i, x); errno != api.OK {
			return errno
		}
	}
	return api.OK
}

// code of a function, in a program whose functions have these places.
func (r Rules) code(p api.Program, places map[string]int, c api.Code) api.Errno {
	if errno := r.head(c); errno != api.OK {
		return errno
	}
	k := checker{Rules: r, funcs: p.Funcs, places: places, of: c}
	instrs := 0
	return each(c.Blocks, func(_ int, block []api.Instr) api.Errno {
		if len(block) == 0 {
			return api.ErrNone
		}
		if instrs += len(block); instrs > r.Instrs {
			return api.ErrSize
		}
		return k.block(block)
	})
}

// head: what does not hang on the instructions.
func (r Rules) head(c api.Code) api.Errno {
	if len(c.Blocks) == 0 {
		return api.ErrNone
	}
	if len(c.Blocks) > api.MaxBlocks || c.Params > api.MaxWords || c.Results > api.MaxWords || r.Big(c) {
		return api.ErrSize
	}
	if c.Params < 0 || c.Results < 0 || r.Off(c) {
		return api.ErrRange
	}
	return api.OK
}
