package alloc

import (
	"math"
	"slices"

	"postern/api"
)

// span of a variable: from which point to which one a value of it may be needed. An instruction has two points: there its arguments are asked, and then its results are set.
type span struct{ from, to int }

// start: the point ahead of all instructions.
const start = -1

func (s span) points() int { return s.to - s.from + 1 }

// spansOf the variables of code, in the order in which its blocks stand.
func spansOf(c api.Code, lives []life) []span {
	spans := slices.Repeat([]span{{math.MaxInt, math.MinInt}}, c.Vars)
	touch := func(at int, vars ...int) {
		for _, v := range vars {
			spans[v] = span{min(at, spans[v].from), max(at, spans[v].to)}
		}
	}
	touch(start, lives[0].begin.All()...)
	at := start + 1
	for b, block := range c.Blocks {
		touch(at, lives[b].begin.All()...)
		for _, in := range block {
			touch(at, in.As...)
			touch(at+1, in.Ds...)
			at += 2
		}
		touch(at-1, lives[b].end.All()...)
	}
	return spans
}
