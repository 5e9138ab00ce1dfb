package lower

import (
	"postern/api"
	"postern/emit"
	"postern/layout"
)

// rounds of a loop, as long as there are more.
func (l *lowerer) rounds(more func() int, round func(again *emit.Place)) {
	var again, inside, behind emit.Place
	l.Jump(&again)
	l.Here(&again)
	l.Choose(more(), &inside, &behind)
	l.Here(&inside)
	l.loops = append(l.loops, loop{&again, &behind})
	round(&again)
	l.loops = l.loops[:len(l.loops)-1]
	l.Jump(&again)
	l.Here(&behind)
}

// ranged: what a Range goes over, where it goes on, and what it sets. All of these are its own, as its Body may change every variable.
type ranged struct {
	kind        int
	of          []int
	next        int
	key, member int
}

func (l *lowerer) ranging(s api.Stmt) {
	r := ranged{kind: l.typeOf(s.Exprs[0]), of: l.held(s.Exprs[0]), next: l.Num(0)}
	l.scoped(func() {
		key, member := l.Fresh(1), l.Fresh(1)
		l.declare(s.S, variable{api.Int, key})
		l.declare(s.T, variable{api.Int, member})
		r.key, r.member = key[0], member[0]
		l.rounds(func() int { return l.more(r) }, func(again *emit.Place) {
			l.take(r, again)
			l.block(s.Body)
		})
	})
}

// more: is there anything left?
func (l *lowerer) more(r ranged) int {
	end := r.of[0]
	switch r.kind {
	case api.Str, api.Slice:
		end = r.of[layout.Long]
	case api.Map:
		end = l.Load(r.of[0], layout.MapEver)
	}
	return l.Math(r.next, "<", end)
}

// take what is next, and go on behind it at once, so that a Continue can't leave that out.
func (l *lowerer) take(r ranged, again *emit.Place) {
	if r.kind == api.Map {
		l.takeEntry(r, again)
		return
	}
	l.Set(r.key, r.next)
	switch r.kind {
	case api.Int:
		l.Set(r.member, r.next)
	case api.Str:
		bytes := l.Fresh(1)[0]
		l.call([]int{r.member, bytes}, "_rune", r.of, []int{r.next})
		l.Change(r.next, "+", bytes)
		return
	case api.Slice:
		l.SetLoad(r.member, l.Math(r.of[layout.Address], "+", r.next), 0)
	}
	l.Change(r.next, "+", l.Num(1))
}

// takeEntry that is next, if it lives. Entries may have come, and stand elsewhere, since the last one.
func (l *lowerer) takeEntry(r ranged, again *emit.Place) {
	var lives emit.Place
	behind := l.Math(r.next, "*", l.Num(layout.EntryWords))
	entry := l.Math(l.Load(r.of[0], layout.MapWhere), "+", behind)
	l.Change(r.next, "+", l.Num(1))
	l.Choose(l.Load(entry, layout.EntryLives), &lives, again)
	l.Here(&lives)
	l.SetLoad(r.key, entry, layout.EntryKey)
	l.SetLoad(r.member, entry, layout.EntryValue)
}
