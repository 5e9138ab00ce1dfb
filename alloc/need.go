package alloc

import (
	"cmp"
	"slices"

	"postern/api"
	"postern/code"
)

// needs of the variables of code.
type needs struct {
	spans []span
	uses  []use
	wants []int // the variables that a register is good for; those that are needed first come first
}

func needsOf(c api.Code) needs {
	ahead := code.Ahead(code.Leads(c.Blocks))
	n := needs{spans: spansOf(c, livesOf(c, ahead))}
	n.uses = usesOf(c, n.spans)
	again := len(ahead[0]) > 0 // then no param may be loaded ahead of the first block: its first value would come again
	for v := range c.Vars {
		if n.uses[v].gain() > 0 && !(again && v < c.Params && n.atStart(v)) {
			n.wants = append(n.wants, v)
		}
	}
	slices.SortStableFunc(n.wants, func(a, b int) int { return cmp.Compare(n.spans[a].from, n.spans[b].from) })
	return n
}

// atStart: may a variable be asked for what it is at first?
func (n needs) atStart(v int) bool { return n.spans[v].from == start }

// compare what two variables gain by a register for each point at which they are needed.
func (n needs) compare(a, b int) int {
	return cmp.Compare(n.uses[a].gain()*n.spans[b].points(), n.uses[b].gain()*n.spans[a].points())
}
