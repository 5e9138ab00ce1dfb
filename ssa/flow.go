package ssa

import (
	"slices"

	"postern/code"
)

// none: no place.
const none = -1

// flow: how blocks lead to each other.
type flow struct {
	ahead [][]int
	next  [][]int // those that each one leads to, in their order, each once
	order []int   // those that can be done, each one behind all above it
	upper []int   // of each one the nearest one above it
	tree  []int   // those that can be done, each one with all below it right behind
	at    []int   // of each one the place in tree
	many  []int   // of each one how many stand there for it: itself, and those below it
}

func endsWith(l []int, n int) bool { return len(l) > 0 && l[len(l)-1] == n }

// flowOf blocks that lead to these places.
func flowOf(leads [][]int) flow {
	f := flow{ahead: code.Ahead(leads), next: make([][]int, len(leads)), order: orderOf(leads)}
	for to, l := range f.ahead {
		for _, b := range l {
			f.next[b] = append(f.next[b], to)
		}
	}
	f.upper = uppersOf(f.ahead, f.order)
	f.plant()
	return f
}

// orderOf the blocks that can be done. The way to a block may be as long as there are blocks: too long for calls that wait for each other.
func orderOf(leads [][]int) []int {
	var order, way []int
	met := make([]bool, len(leads))
	looked := make([]int, len(leads)) // at so many places that a block leads to
	come := func(b int) {
		if 0 <= b && b < len(leads) && !met[b] {
			met[b] = true
			way = append(way, b)
		}
	}
	for come(0); len(way) > 0; {
		b := way[len(way)-1]
		if looked[b] < len(leads[b]) {
			looked[b]++
			come(leads[b][looked[b]-1])
			continue
		}
		way = way[:len(way)-1]
		order = append(order, b)
	}
	slices.Reverse(order)
	return order
}

// uppersOf the blocks: what is above all that lead to one is above it, and the nearest such one is looked for till no better is found.
func uppersOf(ahead [][]int, order []int) []int {
	c := climber{upper: slices.Repeat([]int{none}, len(ahead)), rank: make([]int, len(ahead)), met: make([]int, len(ahead))}
	for i, b := range order {
		c.rank[b] = i
	}
	for changed := len(order) > 1; changed; {
		changed = false
		for _, b := range order[1:] {
			nearest := none
			c.climb++
			for _, a := range ahead[b] {
				switch known := a == order[0] || c.upper[a] != none; {
				case known && nearest == none:
					nearest = a
				case known:
					nearest = c.meet(nearest, a)
				}
			}
			changed = changed || c.upper[b] != nearest
			c.upper[b] = nearest
		}
	}
	return c.upper
}

// climber from blocks to those above them.
type climber struct {
	upper []int
	rank  []int // what is above has a lower one
	met   []int // in which climb a block was met the last time
	climb int
}

// meet above two blocks. What was met in this climb is below the nearest one that was found in it: from there no new way leads.
func (c *climber) meet(nearest, a int) int {
	for a != nearest {
		if c.rank[a] < c.rank[nearest] {
			a, nearest = nearest, a
		}
		if c.met[a] == c.climb {
			return nearest
		}
		c.met[a] = c.climb
		a = c.upper[a]
	}
	return nearest
}

// plant the tree, so that whether one block is above another one is asked at once.
func (f *flow) plant() {
	n := len(f.ahead)
	f.at, f.many, f.tree = slices.Repeat([]int{none}, n), make([]int, n), make([]int, len(f.order))
	for _, b := range slices.Backward(f.order) {
		f.many[b]++
		if b != f.order[0] {
			f.many[f.upper[b]] += f.many[b]
		}
	}
	free := make([]int, n) // where the next one below a block comes
	for i, b := range f.order {
		if i == 0 {
			f.at[b] = 0
		} else {
			f.at[b] = free[f.upper[b]]
			free[f.upper[b]] += f.many[b]
		}
		free[b] = f.at[b] + 1
		f.tree[f.at[b]] = b
	}
}

func (f flow) canBeDone(b int) bool { return f.at[b] != none }

// isAbove: is a block on each way to another one, or that one itself? Both can be done.
func (f flow) isAbove(a, b int) bool {
	return f.at[a] <= f.at[b] && f.at[b] < f.at[a]+f.many[a]
}
