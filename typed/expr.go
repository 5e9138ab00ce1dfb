package typed

import "postern/api"

const anyCount = -1

// argCounts: how many Args each kind of expression has.
var argCounts = [...]int{
	api.Num: 0, api.Text: 0, api.Truth: 0, api.Var: 0, api.Two: 2, api.One: 1,
	api.Call: anyCount, api.Len: 1, api.At: 2, api.Add: 2, api.List: anyCount, api.Empty: 0,
}

// expr: the type of an expression; None: that of a call of a function without a Result.
func (c *checker) expr(e api.Expr) (int, api.Errno) {
	if e.Kind < api.Num || e.Kind > api.Empty {
		return api.None, api.ErrKind
	}
	if n := argCounts[e.Kind]; n != anyCount && len(e.Args) != n {
		return api.None, api.ErrCount
	}
	if !c.enter() {
		return api.None, api.ErrDeep
	}
	defer func() { c.depth-- }()
	types := make([]int, 0, len(e.Args))
	for _, a := range e.Args {
		t, errno := c.value(a)
		if errno != api.OK {
			return api.None, errno
		}
		types = append(types, t)
	}
	return c.typeOf(e, types)
}

// value: the type of an expression that must have one.
func (c *checker) value(e api.Expr) (int, api.Errno) {
	t, errno := c.expr(e)
	if errno == api.OK && t == api.None {
		errno = api.ErrType
	}
	return t, errno
}

// want a value of that type.
func (c *checker) want(e api.Expr, want int) api.Errno {
	t, errno := c.value(e)
	if errno == api.OK && t != want {
		errno = api.ErrType
	}
	return errno
}

// typeOf an expression whose Args have these types.
func (c *checker) typeOf(e api.Expr, args []int) (int, api.Errno) {
	switch e.Kind {
	case api.Num:
		return given(api.Int, inBounds(e.N), api.ErrRange)
	case api.Text:
		return given(api.Str, len(e.S) <= api.MaxSource, api.ErrSize)
	case api.Truth:
		return given(api.Bool, e.N == 0 || e.N == 1, api.ErrRange)
	case api.Var:
		return c.declared(e.S)
	case api.Two:
		return typeOfTwo(e.S, args[0], args[1])
	case api.One:
		return typeOfOne(e.S, args[0])
	case api.Call:
		return c.typeOfCall(e.S, args)
	case api.Len:
		return given(api.Int, hasParts(args[0]), api.ErrType)
	case api.At:
		return given(api.Int, hasParts(args[0]) && args[1] == api.Int, api.ErrType)
	case api.Add:
		return given(api.Slice, args[0] == api.Slice && args[1] == api.Int, api.ErrType)
	case api.List:
		return typeOfList(args)
	}
	return api.Map, api.OK
}

// given: that type, if all is right, else that error.
func given(t int, right bool, errno api.Errno) (int, api.Errno) {
	if !right {
		return api.None, errno
	}
	return t, api.OK
}

func inBounds(n int) bool { return -api.MaxNumber <= n && n <= api.MaxNumber }

func hasParts(t int) bool { return t == api.Str || t == api.Slice || t == api.Map }

// typeOfTwo: there is no operator whose sides may differ.
func typeOfTwo(op string, left, right int) (int, api.Errno) {
	same := left == right
	switch op {
	case "+":
		return given(left, same && (left == api.Int || left == api.Str), api.ErrType)
	case "-", "*", "/", "%":
		return given(api.Int, same && left == api.Int, api.ErrType)
	case "&&", "||":
		return given(api.Bool, same && left == api.Bool, api.ErrType)
	case "==", "!=":
		return given(api.Bool, same && isPlain(left), api.ErrType)
	case "<", "<=", ">", ">=":
		return given(api.Bool, same && (left == api.Int || left == api.Str), api.ErrType)
	}
	return api.None, api.ErrForm
}

// isPlain: of a value that can be compared, and printed.
func isPlain(t int) bool { return t == api.Int || t == api.Bool || t == api.Str }

func typeOfOne(op string, t int) (int, api.Errno) {
	switch op {
	case "-":
		return given(api.Int, t == api.Int, api.ErrType)
	case "!":
		return given(api.Bool, t == api.Bool, api.ErrType)
	}
	return api.None, api.ErrForm
}

func (c *checker) typeOfCall(name string, args []int) (int, api.Errno) {
	i, ok := c.places[name]
	if !ok {
		return api.None, api.ErrNone
	}
	f := c.fs[i]
	if len(args) != len(f.Params) {
		return api.None, api.ErrCount
	}
	for k, p := range f.Params {
		if args[k] != p.Type {
			return api.None, api.ErrType
		}
	}
	return f.Result, api.OK
}

func typeOfList(args []int) (int, api.Errno) {
	if len(args) > api.MaxSource {
		return api.None, api.ErrSize
	}
	for _, t := range args {
		if t != api.Int {
			return api.None, api.ErrType
		}
	}
	return api.Slice, api.OK
}
