package lower

import (
	"postern/api"
	"postern/emit"
)

// variable of the source: its type, and the variables of the code that are its words.
type variable struct {
	kind  int
	words []int
}

// loop: where it goes on, and what is behind it.
type loop struct{ again, behind *emit.Place }

// lowerer of a function.
type lowerer struct {
	*emit.Maker
	find   func(name string) api.Func
	texts  map[string]int        // addresses
	scopes []map[string]variable // the innermost one is the last one, of loops too
	loops  []loop
	badAt  emit.Place // where all runs end that ask for places that are not there
}

// function as code.
func function(f api.Func, find func(name string) api.Func, texts map[string]int) api.Code {
	params := 0
	for _, p := range f.Params {
		params += Words(p.Type)
	}
	return emit.Function(f.Name, params, Words(f.Result), func(m *emit.Maker, words []int) {
		l := &lowerer{Maker: m, find: find, texts: texts}
		l.scoped(func() {
			for _, p := range f.Params {
				n := Words(p.Type)
				l.declare(p.Name, variable{p.Type, words[:n]})
				words = words[n:]
			}
			l.block(f.Body)
		})
		l.Back() // if there is a Result, nothing comes here
		l.Here(&l.badAt)
		l.Fail(api.BadAt)
	})
}

// scoped: what is done has a scope of its own, and variables that nothing behind it needs.
func (l *lowerer) scoped(do func()) {
	l.scopes = append(l.scopes, map[string]variable{})
	l.Freeing(do)
	l.scopes = l.scopes[:len(l.scopes)-1]
}

func (l *lowerer) declare(name string, v variable) {
	l.scopes[len(l.scopes)-1][name] = v
}

// variable that a name means here.
func (l *lowerer) variable(name string) variable {
	for at := len(l.scopes) - 1; at >= 0; at-- {
		if v, ok := l.scopes[at][name]; ok {
			return v
		}
	}
	return variable{}
}

// block of statements; those that nothing can come to are left out.
func (l *lowerer) block(stmts []api.Stmt) {
	l.scoped(func() {
		for _, s := range stmts {
			if l.Open() {
				l.stmt(s)
			}
		}
	})
}
