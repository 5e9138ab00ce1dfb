package lower

import (
	"cmp"
	"slices"

	"postern/api"
	"postern/emit"
)

// few numbers are asked for one by one.
const few = 4

// sparse: a table of places has at most so many times as many as there are numbers.
const sparse = 2

// arm of a switch: a number, and where it leads.
type arm struct {
	num int
	to  *emit.Place
}

// cases of a switch.
func (l *lowerer) cases(s api.Stmt) {
	l.fork(s.Else, func(other, behind *emit.Place) {
		bodies := make([]emit.Place, len(s.Cases))
		var arms []arm
		for i, c := range s.Cases {
			for _, n := range c.Nums {
				arms = append(arms, arm{n, &bodies[i]})
			}
		}
		slices.SortFunc(arms, func(a, b arm) int { return cmp.Compare(a.num, b.num) })
		l.seek(l.value(s.Exprs[0])[0], arms, other)
		for i, c := range s.Cases {
			l.Here(&bodies[i])
			l.block(c.Body)
			l.Jump(behind)
		}
	})
}

// seek a number among arms, in their order: by a table, where they are near together, else by halves.
func (l *lowerer) seek(v int, arms []arm, other *emit.Place) {
	half := len(arms) / 2
	switch {
	case len(arms) <= few:
		l.oneByOne(v, arms, other)
	case arms[len(arms)-1].num-arms[0].num < sparse*len(arms):
		l.table(v, arms, other)
	default:
		var low, high emit.Place
		l.ask(v, "<", arms[half].num, &low, &high)
		l.Here(&low)
		l.seek(v, arms[:half], other)
		l.Here(&high)
		l.seek(v, arms[half:], other)
	}
}

// ask how a variable compares with a number.
func (l *lowerer) ask(v int, op string, n int, yes, no *emit.Place) {
	l.Freeing(func() { l.Choose(l.Math(v, op, l.Num(n)), yes, no) })
}

func (l *lowerer) oneByOne(v int, arms []arm, other *emit.Place) {
	for i, a := range arms {
		var next emit.Place
		no := &next
		if i == len(arms)-1 {
			no = other
		}
		l.ask(v, "==", a.num, a.to, no)
		l.Here(&next)
	}
	l.Jump(other) // if there are none
}

// table of places, from the first number to the last one. What is far away is other: when less goes round, it still meets no number that is not its own.
func (l *lowerer) table(v int, arms []arm, other *emit.Place) {
	first := arms[0].num
	var to []*emit.Place
	for _, a := range arms {
		for len(to) < a.num-first {
			to = append(to, other)
		}
		to = append(to, a.to)
	}
	l.Freeing(func() { l.Pick(l.Math(v, "-", l.Num(first)), append(to, other)...) })
}
