package lower

import (
	"postern/api"
	"postern/emit"
)

// stmt: a statement, whose variables nothing behind it needs; but for that of a Let.
func (l *lowerer) stmt(s api.Stmt) {
	if s.Kind == api.Let {
		l.declare(s.S, variable{l.typeOf(s.Exprs[0]), l.held(s.Exprs[0])})
		return
	}
	l.Freeing(func() {
		switch s.Kind {
		case api.If, api.For, api.Range, api.Switch:
			l.branching(s)
		case api.Return, api.Break, api.Continue:
			l.leaving(s)
		default:
			l.doing(s)
		}
	})
}

func (l *lowerer) branching(s api.Stmt) {
	switch s.Kind {
	case api.If:
		l.choice(s)
	case api.For:
		more := func() int { return l.value(s.Exprs[0])[0] }
		l.rounds(more, func(*emit.Place) { l.block(s.Body) })
	case api.Range:
		l.ranging(s)
	case api.Switch:
		l.cases(s)
	}
}

func (l *lowerer) leaving(s api.Stmt) {
	switch s.Kind {
	case api.Return:
		var results []int
		for _, e := range s.Exprs {
			results = l.value(e)
		}
		l.Back(results...)
	case api.Break:
		l.Jump(l.loops[len(l.loops)-1].behind)
	case api.Continue:
		l.Jump(l.loops[len(l.loops)-1].again)
	}
}

// doing: what is done with values.
func (l *lowerer) doing(s api.Stmt) {
	values := l.values(s.Exprs)
	switch s.Kind {
	case api.Set:
		l.set(l.variable(s.S).words, values[0])
	case api.Put:
		l.put(l.variable(s.S), values[0], values[1])
	case api.Print:
		l.Show(shownAs(l.typeOf(s.Exprs[0])), values[0]...)
	case api.Delete:
		l.call(nil, "_drop", l.variable(s.S).words, values[0])
	}
}

func (l *lowerer) put(v variable, place, value []int) {
	if v.kind == api.Map {
		l.call(nil, "_put", v.words, place, value)
		return
	}
	l.Store(l.wordAt(v.words, place[0]), 0, value[0])
}

func shownAs(t int) string {
	switch t {
	case api.Bool:
		return "bool"
	case api.Str:
		return "text"
	}
	return "int"
}

// fork: some ways, and another one. They meet behind all; the other one leads there at once, if nothing is done on it.
func (l *lowerer) fork(other []api.Stmt, ways func(other, behind *emit.Place)) {
	var no, behind emit.Place
	if len(other) == 0 {
		ways(&behind, &behind)
	} else {
		ways(&no, &behind)
		l.Here(&no)
		l.block(other)
	}
	l.Here(&behind)
}

func (l *lowerer) choice(s api.Stmt) {
	l.fork(s.Else, func(other, behind *emit.Place) {
		var yes emit.Place
		l.Choose(l.value(s.Exprs[0])[0], &yes, other)
		l.Here(&yes)
		l.block(s.Body)
		l.Jump(behind)
	})
}
