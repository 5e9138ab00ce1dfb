package ssa

import (
	"slices"

	"postern/api"
)

// join blocks with those behind them that nothing else leads to.
func (g *graph) join() {
	for b := range g.blocks {
		for g.joined(b) {
		}
	}
	g.settle()
}

// joined: was there such a block behind that one?
func (g *graph) joined(b int) bool {
	n := &g.blocks[b]
	if len(n.body) == 0 || n.end().Op != api.Jump {
		return false
	}
	to := n.end().To[0]
	behind := g.blocks[to]
	if to == b || len(behind.ahead) > 1 || len(behind.phis) > 0 {
		return false
	}
	n.body = slices.Concat(n.body[:len(n.body)-1], behind.body)
	for _, next := range n.end().To {
		ahead := g.blocks[next].ahead
		if at := slices.Index(ahead, to); at >= 0 {
			ahead[at] = b
		}
	}
	g.blocks[to] = node{}
	return true
}

// passBy blocks that do nothing but jump on: what leads to them leads on itself.
func (g *graph) passBy() {
	for b := 1; b < len(g.blocks); b++ {
		n := &g.blocks[b]
		if len(n.phis) > 0 || len(n.body) != 1 || n.end().Op != api.Jump || n.end().To[0] == b {
			continue
		}
		for _, a := range n.ahead {
			g.leadOn(a, b, n.end().To[0])
		}
	}
	g.settle()
}

// leadOn a block, instead of to one that jumps on, to where that leads. Not if it leads there already, and Phis there may tell both ways from each other.
func (g *graph) leadOn(a, b, to int) {
	n := &g.blocks[to]
	already := slices.Contains(n.ahead, a)
	if already && len(n.phis) > 0 {
		return
	}
	places := g.blocks[a].end().To
	for i := range places {
		if places[i] == b {
			places[i] = to
		}
	}
	if already {
		return
	}
	from := slices.Index(n.ahead, b)
	n.ahead = append(n.ahead, a)
	for i := range n.phis {
		n.phis[i].As = append(n.phis[i].As, n.phis[i].As[from])
	}
}
