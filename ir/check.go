package ir

import (
	"slices"

	"postern/api"
	"postern/calc"
)

// counts: how many results, arguments and places an instruction has.
type counts struct{ results, args, places int }

const (
	anyCount = -1
	someOnes = -2 // one at least
)

// countsOf each operator.
var countsOf = [...]counts{
	api.Const:  {1, 0, 0},
	api.Move:   {1, 1, 0},
	api.Math:   {1, 2, 0},
	api.Load:   {1, 1, 0},
	api.Store:  {0, 2, 0},
	api.Alloc:  {1, 1, 0},
	api.Invoke: {anyCount, anyCount, 0},
	api.Show:   {0, anyCount, 0},
	api.Jump:   {0, 0, 1},
	api.Choose: {0, 1, 2},
	api.Pick:   {0, 1, someOnes},
	api.Back:   {0, anyCount, 0},
	api.Fail:   {0, 0, 0},
}

// each looks through a list, till something is wrong.
func each[T any](l []T, look func(at int, x T) api.Errno) api.Errno {
	for i, x := range l {
		if errno := look(i, x); errno != api.OK {
			return errno
		}
	}
	return api.OK
}

// checkCode of a function, in a program whose functions have these places.
func checkCode(p api.Program, places map[string]int, c api.Code) api.Errno {
	if errno := checkHead(c); errno != api.OK {
		return errno
	}
	k := checker{funcs: p.Funcs, places: places, code: c}
	instrs := 0
	return each(c.Blocks, func(_ int, block []api.Instr) api.Errno {
		if len(block) == 0 {
			return api.ErrNone
		}
		if instrs += len(block); instrs > api.MaxInstrs {
			return api.ErrSize
		}
		return k.block(block)
	})
}

// checkHead: what does not hang on the instructions.
func checkHead(c api.Code) api.Errno {
	if len(c.Blocks) == 0 {
		return api.ErrNone
	}
	if len(c.Blocks) > api.MaxBlocks || c.Vars > api.MaxVars || c.Params > api.MaxWords || c.Results > api.MaxWords {
		return api.ErrSize
	}
	if c.Params < 0 || c.Results < 0 || c.Vars < c.Params || c.Slots != 0 {
		return api.ErrRange
	}
	return api.OK
}

// checker of the instructions of a function.
type checker struct {
	funcs  []api.Code
	places map[string]int
	code   api.Code
}

func (k checker) block(block []api.Instr) api.Errno {
	return each(block, func(at int, in api.Instr) api.Errno {
		if errno := k.instr(in); errno != api.OK {
			return errno
		}
		if last := at == len(block)-1; Ends(in.Op) != last {
			return api.ErrForm
		}
		return api.OK
	})
}

func (k checker) instr(in api.Instr) api.Errno {
	switch {
	case in.Op < api.Const || in.Op > api.Fail:
		return api.ErrKind
	case !hasCounts(in):
		return api.ErrCount
	case !k.inBounds(in):
		return api.ErrRange
	case !inForm(in):
		return api.ErrForm
	case !k.argsFit(in):
		return api.ErrCount
	case in.Op == api.Invoke:
		return k.invoke(in)
	}
	return api.OK
}

func hasCounts(in api.Instr) bool {
	fits := func(n, want int) bool {
		return n == want || want == anyCount || want == someOnes && n > 0
	}
	want := countsOf[in.Op]
	return fits(len(in.Ds), want.results) && fits(len(in.As), want.args) && fits(len(in.To), want.places)
}

func (k checker) inBounds(in api.Instr) bool {
	below := func(most int, l []int) bool {
		return !slices.ContainsFunc(l, func(n int) bool { return n < 0 || n >= most })
	}
	return below(k.code.Vars, in.Ds) && below(k.code.Vars, in.As) && below(len(k.code.Blocks), in.To)
}

func inForm(in api.Instr) bool {
	switch in.Op {
	case api.Math:
		return calc.IsOp(in.S)
	case api.Show:
		return in.S == showInt || in.S == showBool || in.S == showText
	case api.Fail:
		return api.BadAt <= in.N && in.N <= api.BadRoom
	}
	return true
}

// argsFit: where the operator alone does not say how many arguments there are.
func (k checker) argsFit(in api.Instr) bool {
	switch in.Op {
	case api.Show:
		if in.S == showText {
			return len(in.As) == 2
		}
		return len(in.As) == 1
	case api.Back:
		return len(in.As) == k.code.Results
	}
	return true
}

func (k checker) invoke(in api.Instr) api.Errno {
	at, ok := k.places[in.S]
	if !ok {
		return api.ErrNone
	}
	if f := k.funcs[at]; len(in.As) != f.Params || len(in.Ds) != f.Results {
		return api.ErrCount
	}
	different := map[int]struct{}{}
	for _, d := range in.Ds {
		different[d] = struct{}{}
	}
	if len(different) < len(in.Ds) {
		return api.ErrTwice
	}
	return api.OK
}
