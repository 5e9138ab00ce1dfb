package ssa

// mostRounds: what one round leaves out may let the next one leave out more; what is left for the last ones is not much.
const mostRounds = 10

// lessen the instructions. False: there are more now, beside the Phis, than a function may have, as some of these became Consts.
func (g *graph) lessen() bool {
	for range mostRounds {
		before := g.instrs()
		g.constants()
		g.sames()
		g.needed()
		g.passBy()
		g.join()
		if g.instrs() == before {
			break
		}
	}
	return g.fits()
}
