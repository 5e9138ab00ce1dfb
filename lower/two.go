package lower

import (
	"postern/api"
	"postern/emit"
	"postern/layout"
)

// two: what an operator makes of two sides.
func (l *lowerer) two(words []int, e api.Expr) {
	if e.S == "&&" || e.S == "||" {
		l.truths(words, e)
		return
	}
	a, b := l.value(e.Args[0]), l.value(e.Args[1])
	if l.typeOf(e.Args[0]) == api.Str {
		l.twoTexts(words, a, e.S, b)
		return
	}
	l.SetMath(words[0], a[0], e.S, b[0])
}

// truths: the second one is asked only if the first one leaves it open.
func (l *lowerer) truths(words []int, e api.Expr) {
	var more, behind emit.Place
	l.into(words, e.Args[0])
	if e.S == "&&" {
		l.Choose(words[0], &more, &behind)
	} else {
		l.Choose(words[0], &behind, &more)
	}
	l.Here(&more)
	l.into(words, e.Args[1])
	l.Here(&behind)
}

// twoTexts: all that is asked of their order is whether one is ahead of the other.
func (l *lowerer) twoTexts(words, a []int, op string, b []int) {
	switch op {
	case "+":
		l.call(words, "_cat", a, b)
	case "==", "!=":
		l.call(words, "_same", a, b)
	case "<", ">=":
		l.call(words, "_less", a, b)
	case ">", "<=":
		l.call(words, "_less", b, a)
	}
	if op == "!=" || op == "<=" || op == ">=" {
		l.not(words[0], words[0])
	}
}

// wordAt: the address of the word at a place of a text or a slice; the run ends there if that has none.
func (l *lowerer) wordAt(of []int, place int) int {
	var there emit.Place
	low := l.Math(place, "<", l.Num(0))
	high := l.Math(place, ">=", of[layout.Long])
	l.Choose(l.Math(low, "+", high), &l.badAt, &there)
	l.Here(&there)
	return l.Math(of[layout.Address], "+", place)
}
