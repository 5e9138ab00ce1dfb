package alloc

import (
	"slices"

	"postern/api"
	"postern/bitset"
)

// life of a block: the variables whose values may still be asked where it begins, and where it ends.
type life struct{ begin, end bitset.Set }

// livesOf the blocks of code, of each of which these stand ahead: what is asked where a block begins is asked where those end, too.
func livesOf(c api.Code, ahead [][]int) []life {
	lives, sets := make([]life, len(c.Blocks)), make([]bitset.Set, len(c.Blocks))
	var work []int // blocks at whose beginnings more is asked than those ahead know of
	waits := make([]bool, len(c.Blocks))
	come := func(b int) {
		if !waits[b] {
			waits[b] = true
			work = append(work, b)
		}
	}
	for b, block := range slices.Backward(c.Blocks) {
		lives[b], sets[b] = alone(block, c.Vars)
		come(b)
	}
	for len(work) > 0 {
		b := work[0]
		work, waits[b] = work[1:], false
		for _, a := range ahead[b] {
			lives[a].end.Join(lives[b].begin)
			if lives[a].begin.JoinBut(lives[b].begin, sets[a]) {
				come(a)
			}
		}
	}
	return lives
}

// alone: the life of a block behind which nothing is asked, and what it sets.
func alone(block []api.Instr, vars int) (life, bitset.Set) {
	l, sets := life{bitset.New(vars), bitset.New(vars)}, bitset.New(vars)
	for _, in := range slices.Backward(block) {
		l.begin.Drop(in.Ds...)
		l.begin.Add(in.As...)
		sets.Add(in.Ds...)
	}
	return l, sets
}
