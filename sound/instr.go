package sound

import (
	"slices"

	"postern/api"
	"postern/calc"
)

// Counts: how many results, arguments and places an instruction has.
type Counts struct{ Results, Args, Places int }

// How many there are, where it is no number.
const (
	Any  = -1
	Some = -2 // one at least
)

// Kinds of what is shown.
const (
	ShowInt  = "int"
	ShowBool = "bool"
	ShowText = "text"
)

// All numbers: are they from 0 to below that?
func All(below int, l []int) bool {
	return !slices.ContainsFunc(l, func(n int) bool { return n < 0 || n >= below })
}

// checker of the instructions of a function.
type checker struct {
	Rules
	funcs  []api.Code
	places map[string]int
	of     api.Code
}

func (k checker) block(block []api.Instr) api.Errno {
	return each(block, func(at int, in api.Instr) api.Errno {
		if errno := k.instr(in); errno != api.OK {
			return errno
		}
		if last := at == len(block)-1; Ends(in.Op) != last {
			return api.ErrForm
		}
		return api.OK
	})
}

func (k checker) instr(in api.Instr) api.Errno {
	want, ok := k.Counts(in.Op)
	switch {
	case !ok:
		return api.ErrKind
	case !want.fit(in):
		return api.ErrCount
	case !All(len(k.of.Blocks), in.To) || !k.Has(k.of, in):
		return api.ErrRange
	case !inForm(in):
		return api.ErrForm
	case !k.argsFit(in):
		return api.ErrCount
	case in.Op == api.Invoke:
		return k.invoke(in)
	}
	return api.OK
}

func (c Counts) fit(in api.Instr) bool {
	fits := func(n, want int) bool {
		return n == want || want == Any || want == Some && n > 0
	}
	return fits(len(in.Ds), c.Results) && fits(len(in.As), c.Args) && fits(len(in.To), c.Places)
}

func inForm(in api.Instr) bool {
	switch in.Op {
	case api.Math:
		return calc.IsOp(in.S)
	case api.Show:
		return in.S == ShowInt || in.S == ShowBool || in.S == ShowText
	case api.Fail:
		return api.BadAt <= in.N && in.N <= api.BadRoom
	}
	return true
}

// argsFit: where the operator alone does not say how many arguments there are.
func (k checker) argsFit(in api.Instr) bool {
	switch in.Op {
	case api.Show:
		if in.S == ShowText {
			return len(in.As) == 2
		}
		return len(in.As) == 1
	case api.Back:
		return len(in.As) == k.of.Results
	}
	return true
}

func (k checker) invoke(in api.Instr) api.Errno {
	at, ok := k.places[in.S]
	if !ok {
		return api.ErrNone
	}
	if f := k.funcs[at]; len(in.As) != f.Params || len(in.Ds) != f.Results {
		return api.ErrCount
	}
	different := map[int]struct{}{}
	for _, d := range in.Ds {
		different[d] = struct{}{}
	}
	if len(different) < len(in.Ds) {
		return api.ErrTwice
	}
	return api.OK
}
