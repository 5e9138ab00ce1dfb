package ssa_test

import (
	"fmt"
	"math"
	"slices"
	"strings"
	"testing"

	"postern/api"
	"postern/ssa"
)

// leading: code whose blocks lead to these places.
func leading(to ...[]int) api.Code {
	var c api.Code
	for _, l := range to {
		c.Blocks = append(c.Blocks, block(pick(0, l...)))
	}
	return c
}

// told: lists as a text; nil or not, they are the same.
func told(l [][]int) string {
	return strings.ReplaceAll(fmt.Sprint(l), "<nil>", "[]")
}

func wantAhead(t *testing.T, c api.Code, ahead, above string) {
	t.Helper()
	if got := told(ssa.Ahead(c)); got != ahead {
		t.Errorf("ahead of %+v: %s; want %s", c, got, ahead)
	}
	if got := told(ssa.Above(c)); got != above {
		t.Errorf("above %+v: %s; want %s", c, got, above)
	}
}

func TestAheadAndAbove(t *testing.T) {
	wantAhead(t, api.Code{}, "[]", "[]")
	wantAhead(t, leading(nil), "[[]]", "[[0]]")
	wantAhead(t, leading([]int{0}), "[[0]]", "[[0]]")
	wantAhead(t, leading([]int{1, 2}, []int{3}, []int{3}, nil), "[[] [0] [0] [1 2]]", "[[0] [0 1] [0 2] [0 3]]")
	wantAhead(t, leading([]int{1}, []int{2}, []int{1, 3}, nil), "[[] [0 2] [1] [2]]", "[[0] [0 1] [0 1 2] [0 1 2 3]]")
	wantAhead(t, leading([]int{3}, nil, []int{1}, []int{2, 3}), "[[] [2] [3] [0 3]]", "[[0] [0 1 2 3] [0 2 3] [0 3]]")
}

func TestOncePlaces(t *testing.T) {
	wantAhead(t, leading([]int{1, 1, 1}, []int{1, 0, 1}), "[[1] [0 1]]", "[[0] [0 1]]")
	wantAhead(t, leading([]int{1, 2, 1, 2, 1}, nil, nil), "[[] [0] [0]]", "[[0] [0 1] [0 2]]")
}

func TestNoPlaces(t *testing.T) {
	far := []int{-1, 3, 4, math.MinInt, math.MaxInt, 2}
	wantAhead(t, leading(far, nil, nil), "[[] [] [0]]", "[[0] [] [0 2]]")
}

func TestEmptyBlocks(t *testing.T) {
	c := leading([]int{1, 2}, []int{2}, []int{0})
	c.Blocks[1] = nil
	wantAhead(t, c, "[[2] [0] [0]]", "[[0] [0 1] [0 2]]")
	c.Blocks[0] = nil
	wantAhead(t, c, "[[2] [] []]", "[[0] [] []]")
}

func TestLastInstr(t *testing.T) {
	c := leading(nil, nil, nil)
	c.Blocks[0] = block(jump(1), set(0, 1), jump(2))
	c.Blocks[2] = block(jump(1), back())
	wantAhead(t, c, "[[] [] [0]]", "[[0] [] [0 2]]")
}

func TestBlocksNotDone(t *testing.T) {
	wantAhead(t, leading([]int{2}, []int{2, 1}, nil), "[[] [1] [0 1]]", "[[0] [] [0 2]]")
	wantAhead(t, leading(nil, []int{2}, []int{1, 0}), "[[2] [2] [1]]", "[[0] [] []]")
}

// TestEachWay: blocks that are entered in many ways, loops that are entered in two, too.
func TestEachWay(t *testing.T) {
	wantAhead(t, leading([]int{1, 2}, []int{2}, []int{1, 3}, nil), "[[] [0 2] [0 1] [2]]", "[[0] [0 1] [0 2] [0 2 3]]")
	wantAhead(t, leading([]int{4, 3}, []int{2}, []int{1, 3}, []int{2}, []int{1}), "[[] [2 4] [1 3] [0 2] [0]]", "[[0] [0 1] [0 2] [0 3] [0 4]]")
	wantAhead(t, leading([]int{5}, []int{2}, []int{3, 4}, []int{1, 4}, nil, []int{1}), "[[] [3 5] [1] [2] [2 3] [0]]", "[[0] [0 1 5] [0 1 2 5] [0 1 2 3 5] [0 1 2 4 5] [0 5]]")
}

// plainAhead: what P6.1 says, word by word.
func plainAhead(c api.Code) [][]int {
	ahead := make([][]int, len(c.Blocks))
	for b := range c.Blocks {
		for from := range c.Blocks {
			if leadsTo(c, from, b) {
				ahead[b] = append(ahead[b], from)
			}
		}
	}
	return ahead
}

// plainDone: the blocks that can be done when one can't.
func plainDone(c api.Code, without int) []bool {
	done := make([]bool, len(c.Blocks))
	var come func(b int)
	come = func(b int) {
		if b == without || b < 0 || b >= len(done) || done[b] {
			return
		}
		done[b] = true
		if l := c.Blocks[b]; len(l) > 0 {
			for _, to := range l[len(l)-1].To {
				come(to)
			}
		}
	}
	come(0)
	return done
}

// plainAbove: a block is on each way to another one, if that can't be done without it.
func plainAbove(c api.Code) [][]int {
	above := make([][]int, len(c.Blocks))
	done := plainDone(c, -1)
	for a := range c.Blocks {
		without := plainDone(c, a)
		for b := range c.Blocks {
			if done[b] && !without[b] {
				above[b] = append(above[b], a)
			}
		}
	}
	return above
}

func TestDrawnBlocks(t *testing.T) {
	d := die(1)
	for range 3000 {
		n := 1 + d.n(12)
		if d.n(20) == 0 {
			n = 40
		}
		c := leading(make([][]int, n)...)
		for b := range c.Blocks {
			c.Blocks[b][0].To = d.list(one(&d, 0, 1, 1, 2, 2, 3, 5), n)
			if d.n(9) == 0 {
				c.Blocks[b][0].To = append(c.Blocks[b][0].To, -1, n)
			}
			if d.n(20) == 0 {
				c.Blocks[b] = nil
			}
		}
		wantAhead(t, c, told(plainAhead(c)), told(plainAbove(c)))
	}
}

// TestManyBlocks: more than a function may have, on long ways and on short ones.
func TestManyBlocks(t *testing.T) {
	const n = 3000
	long := leading(make([][]int, n)...)
	for b := range n {
		long.Blocks[b][0].To = []int{b + 1}
	}
	for b, l := range ssa.Above(long) {
		if len(l) != b+1 || l[0] != 0 || l[b] != b {
			t.Fatalf("above %d: %v", b, l)
		}
	}
	const many = 300000
	short := leading(make([][]int, many)...)
	for b := range many {
		short.Blocks[b][0].To = []int{b + 1, many - 1}
		short.Blocks[0][0].To = append(short.Blocks[0][0].To, b)
	}
	for b, l := range ssa.Above(short) {
		if b > 0 && !slices.Equal(l, []int{0, b}) {
			t.Fatalf("above %d: %v", b, l)
		}
	}
	if l := ssa.Ahead(short)[many-1]; len(l) != many {
		t.Fatalf("ahead of the last one there are %d", len(l))
	}
}
