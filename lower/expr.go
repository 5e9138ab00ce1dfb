package lower

import (
	"slices"

	"postern/api"
	"postern/layout"
)

// typeOf an expression that fits.
func (l *lowerer) typeOf(e api.Expr) int {
	switch e.Kind {
	case api.Text:
		return api.Str
	case api.Truth:
		return api.Bool
	case api.Var:
		return l.variable(e.S).kind
	case api.Two:
		return l.typeOfTwo(e)
	case api.One:
		return l.typeOf(e.Args[0])
	case api.Call:
		return l.find(e.S).Result
	case api.Add, api.List:
		return api.Slice
	case api.Empty:
		return api.Map
	}
	return api.Int
}

func (l *lowerer) typeOfTwo(e api.Expr) int {
	switch e.S {
	case "+":
		return l.typeOf(e.Args[0])
	case "-", "*", "/", "%":
		return api.Int
	}
	return api.Bool
}

// value of an expression: variables that are its words. They may be those of a variable of the source, as no expression changes any.
func (l *lowerer) value(e api.Expr) []int {
	switch {
	case e.Kind == api.Var:
		return l.variable(e.S).words
	case e.Kind == api.Len && l.typeOf(e.Args[0]) != api.Map:
		return l.value(e.Args[0])[layout.Long : layout.Long+1]
	}
	return l.held(e)
}

// held: the value of an expression in variables that nothing else changes.
func (l *lowerer) held(e api.Expr) []int {
	words := l.Fresh(Words(l.typeOf(e)))
	l.into(words, e)
	return words
}

// into variables that nothing asks yet: the value of an expression.
func (l *lowerer) into(words []int, e api.Expr) {
	l.Freeing(func() {
		switch e.Kind {
		case api.Num, api.Truth:
			l.SetNum(words[0], e.N)
		case api.Text:
			l.SetNum(words[layout.Address], l.texts[e.S])
			l.SetNum(words[layout.Long], len(e.S))
		case api.Two:
			l.two(words, e)
		case api.One:
			l.one(words[0], e)
		case api.Call:
			l.call(words, e.S, l.values(e.Args)...)
		case api.At:
			l.at(words[0], e)
		case api.Add:
			l.call(words, "_add", l.values(e.Args)...)
		case api.List:
			l.list(words, e)
		case api.Empty:
			l.call(words, "_map")
		default:
			l.same(words, e)
		}
	})
}

// values of expressions, one by one.
func (l *lowerer) values(exprs []api.Expr) [][]int {
	var values [][]int
	for _, e := range exprs {
		values = append(values, l.value(e))
	}
	return values
}

// call a function with values; variables are its results.
func (l *lowerer) call(results []int, name string, args ...[]int) {
	l.SetCall(results, name, slices.Concat(args...)...)
}

// set variables to a value.
func (l *lowerer) set(words, value []int) {
	for i, w := range words {
		l.Set(w, value[i])
	}
}

// same: what is there already, but for how many entries of a map live.
func (l *lowerer) same(words []int, e api.Expr) {
	if e.Kind == api.Len && l.typeOf(e.Args[0]) == api.Map {
		l.SetLoad(words[0], l.value(e.Args[0])[0], layout.MapLive)
		return
	}
	l.set(words, l.value(e))
}

func (l *lowerer) one(v int, e api.Expr) {
	a := l.value(e.Args[0])[0]
	if e.S == "!" {
		l.not(v, a)
		return
	}
	l.SetMath(v, l.Num(0), "-", a)
}

// not: a truth is the other one.
func (l *lowerer) not(v, truth int) { l.SetMath(v, truth, "==", l.Num(0)) }

// list: a new slice.
func (l *lowerer) list(words []int, e api.Expr) {
	values := l.values(e.Args)
	address, long := words[layout.Address], words[layout.Long]
	l.SetNum(long, len(values))
	l.Set(words[layout.Room], long)
	l.SetAlloc(address, long)
	for i, v := range values {
		l.Store(address, i, v[0])
	}
}

func (l *lowerer) at(v int, e api.Expr) {
	of, place := l.value(e.Args[0]), l.value(e.Args[1])
	if l.typeOf(e.Args[0]) == api.Map {
		l.call([]int{v}, "_get", of, place)
		return
	}
	l.SetLoad(v, l.wordAt(of, place[0]), 0)
}
