package lower_test

import (
	"strconv"

	"postern/api"
)

func itoa(n int) string { return strconv.Itoa(n) }

// drawer of functions that fit.
type drawer struct {
	*die
	fs     []api.Func // without their Bodies
	at     int        // the place of the function that is being drawn
	scopes [][]api.Param
	loops  int
}

// drawnFuncs: the first function has one variable of each type, at least.
func drawnFuncs(d *die) []api.Func {
	w := &drawer{die: d}
	for i := range 1 + d.n(4) {
		f := api.Func{Name: "f" + itoa(i)}
		if i > 0 {
			f.Result = d.n(6)
			for k := range d.n(api.MaxParams + 1) {
				f.Params = append(f.Params, api.Param{Name: "p" + itoa(k), Type: 1 + d.n(5)})
			}
		}
		w.fs = append(w.fs, f)
	}
	fs := append([]api.Func(nil), w.fs...)
	for i := range fs {
		w.at, w.loops = i, 0
		w.scopes = [][]api.Param{fs[i].Params}
		fs[i].Body = w.body(fs[i].Result)
	}
	return fs
}

// body of a function: its variables, some statements, and what they come to.
func (w *drawer) body(result int) []api.Stmt {
	w.scopes = append(w.scopes, nil)
	var l []api.Stmt
	for kind := api.Int; kind <= api.Map; kind++ {
		name := "v" + itoa(kind)
		l = append(l, naming(name, api.Let, w.value(kind, 1)))
		w.declare(name, kind)
	}
	for range 1 + w.n(6) {
		l = append(l, w.stmt(3))
	}
	for _, name := range []string{"v1", "v2", "v3"} {
		l = append(l, doing(api.Print, variable(name)))
	}
	for _, name := range []string{"v4", "v5"} {
		print := doing(api.Print, variable("t"))
		l = append(l, api.Stmt{Kind: api.Range, S: "k", T: "t", Exprs: []api.Expr{variable(name)}, Body: []api.Stmt{print}})
	}
	if result != api.None {
		l = append(l, doing(api.Return, w.value(result, 2)))
	}
	return l
}

func (w *drawer) declare(name string, kind int) {
	in := &w.scopes[len(w.scopes)-1]
	*in = append(*in, api.Param{Name: name, Type: kind})
}

// known: the names of a type that are not hidden.
func (w *drawer) known(kind int) []string {
	seen := map[string]bool{}
	var l []string
	for i := len(w.scopes) - 1; i >= 0; i-- {
		for _, p := range w.scopes[i] {
			if !seen[p.Name] && p.Type == kind {
				l = append(l, p.Name)
			}
			seen[p.Name] = true
		}
	}
	return l
}

// value of a type.
func (w *drawer) value(kind, n int) api.Expr {
	if l := w.known(kind); len(l) > 0 && w.n(3) > 0 {
		return variable(one(w.die, l...))
	}
	if n <= 0 {
		return w.plain(kind)
	}
	if f, ok := w.function(kind); ok && w.n(6) == 0 {
		return w.call(f, n-1)
	}
	two := func(kind int, ops ...string) api.Expr {
		return with(of(api.Two, w.value(kind, n-1), w.value(kind, n-1)), one(w.die, ops...))
	}
	switch kind {
	case api.Int:
		return w.number(n, two)
	case api.Bool:
		return w.truth(n, two)
	case api.Str:
		return two(api.Str, "+")
	case api.Slice:
		if w.n(2) == 0 {
			return of(api.Add, w.value(api.Slice, n-1), w.value(api.Int, n-1))
		}
		return of(api.List, w.value(api.Int, n-1), num(w.n(9)), w.value(api.Int, n-1), num(1))
	}
	return of(api.Empty)
}

// plain value, without others in it.
func (w *drawer) plain(kind int) api.Expr {
	switch kind {
	case api.Int:
		return num(one(w.die, 0, 1, 2, 3, -1, 7, api.MaxNumber, -api.MaxNumber))
	case api.Bool:
		return api.Expr{Kind: api.Truth, N: w.n(2)}
	case api.Str:
		return text(one(w.die, "", "a", "b", "ab", "é", "a\xff", "日本", "x\xe6\x97"))
	case api.Slice:
		return of(api.List, repeated(w.n(5), num(w.n(5)))...)
	}
	return of(api.Empty)
}

func (w *drawer) number(n int, two func(kind int, ops ...string) api.Expr) api.Expr {
	switch w.n(7) {
	case 0, 1:
		return two(api.Int, "+", "-", "*")
	case 2:
		return with(of(api.Two, w.value(api.Int, n-1), num(one(w.die, 1, 2, 3, -1, 0))), one(w.die, "/", "%"))
	case 3:
		return with(of(api.One, w.value(api.Int, n-1)), "-")
	case 4:
		return of(api.Len, w.value(api.Str+w.n(3), n-1))
	case 5:
		return of(api.At, w.value(api.Map, n-1), w.value(api.Int, n-1))
	}
	place := num(w.n(3))
	if w.n(8) == 0 {
		place = w.value(api.Int, n-1)
	}
	return of(api.At, w.value(one(w.die, api.Str, api.Slice), n-1), place)
}

func (w *drawer) truth(n int, two func(kind int, ops ...string) api.Expr) api.Expr {
	switch w.n(5) {
	case 0, 1:
		return two(api.Bool, "&&", "||")
	case 2:
		return two(api.Int+w.n(3), "==", "!=")
	case 3:
		return two(one(w.die, api.Int, api.Str), "<", "<=", ">", ">=")
	}
	return with(of(api.One, w.value(api.Bool, n-1)), "!")
}

// function with that result; seldom one that may call this one.
func (w *drawer) function(result int) (api.Func, bool) {
	var l []api.Func
	for i, f := range w.fs {
		if f.Result == result && (i > w.at || w.n(12) == 0) {
			l = append(l, f)
		}
	}
	if len(l) == 0 {
		return api.Func{}, false
	}
	return one(w.die, l...), true
}

func (w *drawer) call(f api.Func, n int) api.Expr {
	e := call(f.Name)
	for _, p := range f.Params {
		e.Args = append(e.Args, w.value(p.Type, n))
	}
	return e
}

// block in a scope of its own, in that of some names.
func (w *drawer) block(n int, names ...api.Param) []api.Stmt {
	w.scopes = append(w.scopes, names, nil)
	defer func() { w.scopes = w.scopes[:len(w.scopes)-2] }()
	var l []api.Stmt
	for range w.n(4) {
		l = append(l, w.stmt(n))
	}
	return l
}

func (w *drawer) loop(n int, names ...api.Param) []api.Stmt {
	w.loops++
	defer func() { w.loops-- }()
	return w.block(n, names...)
}

func (w *drawer) stmt(n int) api.Stmt {
	kind := api.Let + w.n(13)
	if n > 0 && w.n(2) == 0 {
		kind = api.If + w.n(4)
	}
	switch kind {
	case api.If, api.For, api.Range, api.Switch:
		if n > 0 {
			return w.branching(kind, n-1)
		}
	case api.Put:
		if names := append(w.known(api.Slice), w.known(api.Map)...); len(names) > 0 {
			place := num(w.n(4))
			if w.n(4) == 0 {
				place = w.value(api.Int, 1)
			}
			return naming(one(w.die, names...), kind, place, w.value(api.Int, 2))
		}
	case api.Delete:
		if names := w.known(api.Map); len(names) > 0 {
			return naming(one(w.die, names...), kind, w.value(api.Int, 1))
		}
	case api.Return:
		if result := w.fs[w.at].Result; w.n(3) > 0 {
			break
		} else if result != api.None {
			return doing(kind, w.value(result, 2))
		}
		return doing(kind)
	case api.Break, api.Continue:
		if w.loops > 0 {
			return doing(kind)
		}
	case api.Do:
		if f, ok := w.function(w.n(6)); ok {
			return doing(kind, w.call(f, 1))
		}
	case api.Print:
		return doing(kind, w.value(1+w.n(3), 2))
	}
	return w.changing(kind)
}

// changing: a Set, or a Let of a name that the scope does not have.
func (w *drawer) changing(kind int) api.Stmt {
	t := 1 + w.n(5)
	if names := w.known(t); kind != api.Let && len(names) > 0 {
		return naming(one(w.die, names...), api.Set, w.value(t, 3))
	}
	s := naming(one(w.die, "v1", "v4", "p0", "x", "y"), api.Let, w.value(t, 2))
	for _, p := range w.scopes[len(w.scopes)-1] {
		if p.Name == s.S {
			return naming(s.S, api.Set, w.value(p.Type, 2))
		}
	}
	w.declare(s.S, t)
	return s
}

func (w *drawer) branching(kind, n int) api.Stmt {
	s := api.Stmt{Kind: kind}
	switch kind {
	case api.If:
		s.Exprs = []api.Expr{w.value(api.Bool, 2)}
		s.Body, s.Else = w.block(n), w.block(n)
	case api.For:
		return w.counted(n)
	case api.Range:
		of := one(w.die, api.Int, api.Str, api.Slice, api.Slice, api.Map, api.Map)
		s.S, s.T = one(w.die, "i", "v1"), one(w.die, "j", "x")
		s.Exprs = []api.Expr{w.value(of, 2)}
		s.Body = w.loop(n, api.Param{Name: s.S, Type: api.Int}, api.Param{Name: s.T, Type: api.Int})
	case api.Switch:
		s.Exprs = []api.Expr{w.value(api.Int, 2)}
		next := one(w.die, -api.MaxNumber, -3, -1, 0, 0, 0, 1)
		for range w.n(5) {
			var c api.Case
			for range 1 + w.n(4) {
				c.Nums = append(c.Nums, next)
				next += one(w.die, 1, 1, 1, 2, 1000)
			}
			c.Body = w.block(n)
			s.Cases = append(s.Cases, c)
		}
		s.Else = w.block(n)
	}
	return s
}

// counted: a For that ends some time, if its Body lets it.
func (w *drawer) counted(n int) api.Stmt {
	s := api.Stmt{Kind: api.If, Exprs: []api.Expr{{Kind: api.Truth, N: 1}}}
	count := variable("c")
	more := two(two(count, "<", num(w.n(5))), one(w.die, "&&", "||"), api.Expr{Kind: api.Truth, N: w.n(8) % 2})
	if more.S == "||" {
		more = more.Args[0]
	}
	next := naming("c", api.Set, two(count, "+", num(1)))
	body := append([]api.Stmt{next}, w.loop(n)...)
	s.Body = []api.Stmt{naming("c", api.Let, num(0)), {Kind: api.For, Exprs: []api.Expr{more}, Body: body}}
	return s
}
