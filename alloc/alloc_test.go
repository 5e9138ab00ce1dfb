package alloc_test

import (
	"fmt"
	"math"
	"reflect"
	"strconv"
	"strings"
	"testing"

	"postern/alloc"
	"postern/api"
	"postern/ir"
	"postern/vm"
)

// many: how many variables are live at once; as few as none, as many as there may be.
func many() []int {
	return []int{0, 1, 2, 5, 6, 7, 8, 9, 10, 11, 15, 16, 17, 18, 40, 100, 1000, api.MaxVars - 1}
}

// TestLeast: code that does nothing has no registers and no slots.
func TestLeast(t *testing.T) {
	c := mainOf(0, block(back()))
	if m := mustAlloc(t, "nothing", program(c), c); fmt.Sprint(m) != fmt.Sprint(c) {
		t.Errorf("%+v", m)
	}
	wantRun(t, "nothing", program(c), api.Done)
	c = mainOf(api.MaxVars, block(fail(api.BadRoom)))
	if m := mustAlloc(t, "variables that nothing names", program(c), c); m.Vars != 0 || m.Slots != 0 {
		t.Errorf("%+v", m)
	}
	c = function("f", api.MaxWords, 0, api.MaxWords, block(back()))
	if m := mustAlloc(t, "params that nothing names", program(mainOf(0, block(back())), c), c); m.Vars != 0 || m.Slots != api.MaxWords {
		t.Errorf("%+v", m)
	}
}

// TestAtOnce: variables that are all set, and then all asked, and asked again the other way round.
func TestAtOnce(t *testing.T) {
	for _, n := range many() {
		var ins []api.Instr
		for v := range n {
			ins = append(ins, set(v, v+1))
		}
		want, sum := 0, n // the variable behind them
		for v := range n {
			ins = append(ins, calc(sum, sum, "+", v))
			want += v + 1
		}
		if n < 1000 {
			for v := range n {
				ins = append(ins, calc(sum, sum, "*", n-1-v), calc(sum, sum, "-", v))
				want = want*(n-v) - (v + 1)
			}
		}
		wantRun(t, n, program(mainOf(n+1, append(ins[:min(len(ins), api.MaxInstrs-2)], show(sum), back()))), api.Done, sumOf(n, want))
	}
}

// sumOf: what the above shows; where the code is as long as it may be, the last ones are not in the sum.
func sumOf(n, want int) string {
	if left := 2*n - (api.MaxInstrs - 2); left > 0 {
		for v := n - left; v < n; v++ {
			want -= v + 1
		}
	}
	return strconv.Itoa(want)
}

// TestRegistersAlone: where there are registers for all, nothing is loaded or stored.
func TestRegistersAlone(t *testing.T) {
	var ins []api.Instr
	for v := range api.Regs {
		ins = append(ins, set(v, v))
	}
	for v := range api.Regs {
		ins = append(ins, calc(v, v, "+", (v+3)%api.Regs), show(v))
	}
	turns := mainOf(9, append(ins, jump(1)), block(calc(8, 0, "<", 1), choose(8, 2, 3)), block(calc(0, 0, "+", 0), jump(1)), block(show(0), back()))
	for what, c := range map[string]api.Code{"at once": mainOf(api.Regs, append(ins, back())), "one behind another one": turns} {
		p := program(c)
		if m := mustAlloc(t, what, p, c); ops(m, api.LoadSlot, api.StoreSlot) > 0 || m.Slots > 0 || m.Vars != api.Regs {
			t.Errorf("%s: %+v", what, m)
		}
		wantSame(t, what, p, 10, 1000)
	}
}

// TestNothingTwice: what is in a register is not loaded again, and what is in a slot not stored again.
func TestNothingTwice(t *testing.T) {
	f := function("f", 1, 0, 1, block(back()))
	moves := []int{api.LoadSlot, api.StoreSlot, api.Move}
	sum := calc(0, 0, "+", 0)
	for what, c := range map[string]struct {
		c    api.Code
		most int
	}{
		"a param is passed on": {function("c", 1, 0, 1, block(show(0), show(0), show(0), invoke("f", nil, 0), invoke("f", nil, 0), back())), 1},
		"set once, passed on":  {function("c", 0, 0, 1, block(set(0, 1), show(0), show(0), invoke("f", nil, 0), invoke("f", nil, 0), invoke("f", nil, 0), back())), 1},
		"set often":            {function("c", 0, 1, 1, block(set(0, 1), sum, sum, sum, sum, back(0))), 1},
		"only passed on":       {function("c", 1, 1, 1, block(invoke("f", nil, 0), invoke("f", nil, 0), back(0))), 0},
		"one twice":            {function("c", 1, 0, 1, block(showAs("text", 0, 0), back())), 1},
		"moves to themselves":  {function("c", 2, 2, 2, block(move(0, 0), move(1, 1), show(0), show(0), move(0, 0), back(0, 1))), 2},
		"to the same register": {function("c", 0, 0, 2, block(set(0, 1), move(1, 0), show(1), back())), 0},
	} {
		if m := mustAlloc(t, what, program(f), c.c); ops(m, moves...) > c.most {
			t.Errorf("%s: %+v", what, m)
		}
	}
}

// TestSpans: registers are free again when nothing asks their variables any more.
func TestSpans(t *testing.T) {
	var ins []api.Instr
	for v := range 1000 {
		ins = append(ins, set(v, v), calc(v, v, "*", v), show(v))
	}
	c := mainOf(1000, append(ins, back()))
	if m := mustAlloc(t, "one at a time", program(c), c); m.Vars != 1 || m.Slots != 0 || instrs(m) != instrs(c) {
		t.Errorf("%d registers, %d slots, %d instructions", m.Vars, m.Slots, instrs(m))
	}
	wantSame(t, "one at a time", program(c), 10, 5000)
}

// TestSpansInLoops: what is set anew in each turn is not needed from one to the next.
func TestSpansInLoops(t *testing.T) {
	const n = 30
	c := mainOf(n+2, block(set(n, 5), set(n+1, 1), jump(1)))
	for v := range n {
		c.Blocks = append(c.Blocks, block(set(v, v), calc(v, v, "*", n), jump(2*v+2)), block(show(v), jump(2*v+3)))
	}
	c.Blocks = append(c.Blocks, block(calc(n, n, "-", n+1), choose(n, 1, len(c.Blocks)+1)), block(back()))
	if m := mustAlloc(t, "a loop", program(c), c); m.Vars != 3 || m.Slots != 0 {
		t.Errorf("%d registers, %d slots", m.Vars, m.Slots)
	}
	wantSame(t, "a loop", program(c), 10, 5000)
	again := mainOf(2, block(calc(0, 1, "-", 0), show(0), calc(1, 0, "==", 1), choose(1, 0, 1)), block(back()))
	if m := mustAlloc(t, "the first block", program(again), again); m.Vars != 2 || m.Slots != 0 {
		t.Errorf("%d registers, %d slots", m.Vars, m.Slots)
	}
	wantRun(t, "the first block", program(again), api.Done, "0", "1", "0")
}

// TestAnyOrder: values are needed where a block begins, wherever those stand that lead to it.
func TestAnyOrder(t *testing.T) {
	c := mainOf(4,
		block(jump(2)),
		block(set(1, 8), show(1), set(2, 9), calc(2, 2, "+", 1), show(2), show(0), set(3, 10), show(3), choose(0, 3, 3)),
		block(set(0, 7), jump(1)),
		block(show(0), back()))
	wantRun(t, "from behind", program(c), api.Done, "8", "17", "7", "10", "7")
}

// TestGain: those variables have registers that gain most by them.
func TestGain(t *testing.T) {
	var sets, turn, shows []api.Instr
	const long, short = 20, 30
	for v := range long { // seldom asked, but needed all the time
		sets, shows = append(sets, set(v, v)), append(shows, show(v))
	}
	for v := long; v < long+short; v++ { // often asked, one after the other
		turn = append(turn, set(v, v), calc(v, v, "+", v), calc(v, v, "*", v), show(v))
	}
	c := mainOf(long+short, append(append(append(sets, turn...), shows...), back()))
	if m := mustAlloc(t, "short ones", program(c), c); ops(m, api.LoadSlot, api.StoreSlot) > 2*(long-api.Regs+3) {
		t.Errorf("%d loads and stores", ops(m, api.LoadSlot, api.StoreSlot))
	}
	wantSame(t, "short ones", program(c), 10, 5000)
}

// TestSameVariable: as argument and as result, and more than once.
func TestSameVariable(t *testing.T) {
	minus := function("minus", 2, 1, 3, block(calc(2, 0, "-", 1), back(2)))
	twice := function("twice", 1, 3, 1, block(back(0, 0, 0)))
	turn := function("turn", 3, 3, 3, block(back(1, 2, 0)))
	for what, c := range map[string]struct {
		ins  []api.Instr
		want string
	}{
		"a move to itself":       {block(set(0, 5), move(0, 0), show(0)), "5"},
		"twice itself":           {block(set(0, 5), calc(0, 0, "+", 0), calc(0, 0, "*", 0), show(0)), "100"},
		"moves round":            {block(set(0, 1), set(1, 2), move(2, 0), move(0, 1), move(1, 2), show(0), show(1)), "2 1"},
		"an argument twice":      {block(set(0, 5), invoke("minus", []int{1}, 0, 0), show(1), show(0)), "0 5"},
		"an argument is result":  {block(set(0, 5), set(1, 7), invoke("minus", []int{0}, 0, 1), show(0), show(1)), "-2 7"},
		"the other one is":       {block(set(0, 5), set(1, 7), invoke("minus", []int{1}, 0, 1), show(0), show(1)), "5 -2"},
		"twice, and result":      {block(set(0, 5), invoke("minus", []int{0}, 0, 0), show(0)), "0"},
		"results in any order":   {block(set(0, 5), invoke("twice", []int{2, 0, 1}, 0), calc(0, 0, "+", 1), calc(0, 0, "+", 2), show(0)), "15"},
		"arguments are results":  {block(set(0, 1), set(1, 2), set(2, 3), invoke("turn", []int{0, 1, 2}, 0, 1, 2), show(0), show(1), show(2)), "2 3 1"},
		"in another order":       {block(set(0, 1), set(1, 2), set(2, 3), invoke("turn", []int{2, 0, 1}, 0, 1, 2), show(0), show(1), show(2)), "3 1 2"},
		"one for all":            {block(set(0, 4), invoke("turn", []int{1, 0, 2}, 0, 0, 0), show(0), show(1), show(2)), "4 4 4"},
		"again and again":        {block(set(0, 1), set(1, 9), invoke("minus", []int{0}, 1, 0), invoke("minus", []int{0}, 1, 0), invoke("minus", []int{0}, 1, 0), show(0)), "8"},
		"a word of its place":    {block(set(0, 1), load(0, 0, 0), show(0)), "78"},
		"a place in its place":   {block(set(0, 1), store(0, 0, 0), load(0, 0, 0), show(0)), "1"},
		"room of what there was": {block(set(0, 1), room(0, 0), room(0, 0), show(0)), "3"},
		"a text":                 {block(set(0, 1), showAs("text", 0, 0), showAs("bool", 0)), "N true"},
	} {
		ins := append(c.ins, back())
		for more := range 12 { // variables beside those, that are needed all the time
			var kept, asked []api.Instr
			want := strings.Fields(c.want)
			for v := range more {
				kept, asked = append(kept, set(3+v, 50+v)), append(asked, show(3+v))
				want = append(want, strconv.Itoa(50+v))
			}
			all := append(append(kept, ins[:len(ins)-1]...), append(asked, back())...)
			p := program(mainOf(3+more, all), minus, twice, turn)
			p.Data = []int{77, 78}
			wantRun(t, what+", "+strconv.Itoa(more)+" more", p, api.Done, want...)
		}
	}
}

// TestZeros: variables that nothing has set are 0, and so they are in each call.
func TestZeros(t *testing.T) {
	for _, n := range many()[1:] {
		n = min(n, 1000)
		var shows, sets []api.Instr
		var want []string
		for v := range n {
			shows, sets = append(shows, show(v)), append(sets, set(v, v+1))
			want = append(want, "0")
		}
		dirty := append(append([]api.Instr{}, shows...), append(sets, back())...)
		p := program(mainOf(0, block(invoke("f", nil), invoke("f", nil), back())), function("f", 0, 0, n, dirty))
		wantRun(t, n, p, api.Done, append(want, want...)...)
	}
	zero := mainOf(2, block(show(1), calc(1, 0, "+", 1), set(0, 3), calc(0, 0, "-", 1), pick(0, 1, 1, 1, 0)), block(show(1), back()))
	wantRun(t, "in the first block, to which another one leads", program(zero), api.Done, "0", "0", "3")
}

// TestParams: all that there may be, asked, set, or neither.
func TestParams(t *testing.T) {
	n := api.MaxWords
	var sets, shows []api.Instr
	for v := range n {
		sets, shows = append(sets, set(v, v*v)), append(shows, show(v))
	}
	var want []string
	for v := range n {
		want = append(want, strconv.Itoa(v*v))
	}
	first := mainOf(n, append(sets, invoke("f", nil, upTo(n)...), back()))
	wantRun(t, "all are shown", program(first, function("f", n, 0, n, append(shows, back()))), api.Done, want...)
	given := function("f", n, n, n+1, block(move(n, 15), move(0, n), back(upTo(n)...)))
	main := mainOf(n, append(sets, append(append([]api.Instr{invoke("f", upTo(n), upTo(n)...)}, shows...), back())...))
	wantRun(t, "all go back", program(main, given), api.Done, append([]string{"225"}, want[1:]...)...)
	unset := function("f", 2, 0, 3, block(set(0, 7), set(2, 1), calc(0, 0, "+", 2), show(0), show(1), back()))
	wantRun(t, "one is set ahead", program(mainOf(2, block(set(0, 3), set(1, 4), invoke("f", nil, 0, 1), back())), unset), api.Done, "8", "4")
}

// TestParamsOfLoops: what leads to the first block again leads to values that were set since.
func TestParamsOfLoops(t *testing.T) {
	down := function("f", 2, 1, 4,
		block(calc(1, 1, "+", 0), set(2, 1), calc(0, 0, "-", 2), show(0), choose(0, 0, 1)),
		block(back(1)))
	p := program(mainOf(2, block(set(0, 4), set(1, 100), invoke("f", []int{1}, 0, 1), show(1), back())), down)
	wantRun(t, "the first block alone", p, api.Done, "3", "2", "1", "0", "110")
	far := function("f", 2, 1, 4,
		block(calc(1, 1, "+", 0), jump(1)), block(set(2, 1), calc(0, 0, "-", 2), choose(0, 0, 2)), block(back(1)))
	wantRun(t, "from another one", program(p.Funcs[0], far), api.Done, "110")
}

// TestLoops: values that are needed from one turn to the next, more of them than there are registers.
func TestLoops(t *testing.T) {
	for _, n := range []int{1, 3, 6, 7, 8, 9, 20} {
		var starts, turn, shows []api.Instr
		vars := make([]int, n)
		for v := range n {
			vars[v] = v + 1
			starts = append(starts, set(v, v+1))
			turn = append(turn, calc(v, v, "+", (v+1)%n))
			shows = append(shows, show(v))
		}
		for range 10 {
			for v := range n {
				vars[v] += vars[(v+1)%n]
			}
		}
		i, one, most, less := n, n+1, n+2, n+3
		c := mainOf(n+4,
			append(starts, set(one, 1), set(most, 10), jump(1)),
			block(calc(less, i, "<", most), choose(less, 2, 3)),
			append(turn, calc(i, i, "+", one), jump(1)),
			append(shows, back()))
		var want []string
		for v := range n {
			want = append(want, strconv.Itoa(vars[v]))
		}
		wantRun(t, n, program(c), api.Done, want...)
	}
}

// TestSelf: functions that call themselves keep what is theirs.
func TestSelf(t *testing.T) {
	fib := function("fib", 1, 1, 5,
		block(set(1, 2), calc(2, 0, "<", 1), choose(2, 1, 2)),
		block(back(0)),
		block(set(3, 1), calc(4, 0, "-", 3), invoke("fib", []int{4}, 4), calc(0, 0, "-", 1), invoke("fib", []int{0}, 0), calc(0, 0, "+", 4), back(0)))
	p := program(mainOf(1, block(set(0, 15), invoke("fib", []int{0}, 0), show(0), back())), fib)
	wantRun(t, "fib", p, api.Done, "610")
	even := function("even", 1, 1, 2, block(choose(0, 1, 2)), block(set(1, 1), calc(0, 0, "-", 1), invoke("odd", []int{1}, 0), back(1)), block(set(0, 1), back(0)))
	odd := function("odd", 1, 1, 2, block(choose(0, 1, 2)), block(set(1, 1), calc(0, 0, "-", 1), invoke("even", []int{1}, 0), back(1)), block(back(0)))
	wantRun(t, "one another", program(mainOf(1, block(set(0, 17), invoke("odd", []int{0}, 0), showAs("bool", 0), invoke("even", []int{0}, 0), show(0), back())), even, odd), api.Done, "true", "0")
	for _, n := range []int{1, 8, 20} {
		deep := function("deep", 1, 1, n+2)
		var sets, sums []api.Instr
		for v := 1; v <= n; v++ {
			sets, sums = append(sets, set(n+1, v), calc(v, 0, "*", n+1)), append(sums, calc(n+1, n+1, "+", v))
		}
		deep.Blocks = [][]api.Instr{
			append(sets, choose(0, 1, 2)),
			append(append(block(set(n+1, 1), calc(0, 0, "-", n+1), invoke("deep", []int{n + 1}, 0)), sums...), back(n+1)),
			block(back(0)),
		}
		want := 0
		for arg := 1; arg <= 9; arg++ {
			want += arg * n * (n + 1) / 2
		}
		wantRun(t, n, program(mainOf(1, block(set(0, 9), invoke("deep", []int{0}, 0), show(0), back())), deep), api.Done, strconv.Itoa(want))
	}
}

// TestUnreached: blocks that nothing leads to, wherever they lead.
func TestUnreached(t *testing.T) {
	c := mainOf(3,
		block(set(0, 1), set(1, 2), jump(2)),
		block(set(0, 9), show(2), calc(1, 2, "+", 0), jump(2)),
		block(show(0), show(1), show(2), choose(2, 2, 4)),
		block(jump(3)),
		block(back()),
		block(calc(0, 1, "/", 2), pick(2, 0, 1, 5)))
	p := program(c)
	wantRun(t, "between others", p, api.Done, "1", "2", "0")
	if m := mustAlloc(t, "blocks", p, c); len(m.Blocks) != len(c.Blocks) {
		t.Errorf("%d blocks", len(m.Blocks))
	}
}

// endings: programs that end in each way.
func endings() map[int][]api.Program {
	forever := function("f", 0, 0, 0, block(invoke("f", nil), back()))
	lines := mainOf(2, block(set(0, 7), jump(1)), block(show(0), choose(0, 1, 2)), block(back()))
	return map[int][]api.Program{
		api.Done: {program(mainOf(1, block(show(0), back())))},
		api.BadAt: {
			program(mainOf(1, block(show(0), fail(api.BadAt)))),
			program(mainOf(2, block(show(0), set(0, -1), load(1, 0, 0), show(1), back()))),
			program(mainOf(2, block(set(0, 1), room(1, 0), store(0, 0, 0), show(1), back()))),
			program(mainOf(2, block(set(0, -3), room(1, 0), show(1), back()))),
			program(mainOf(2, block(set(1, 5), showAs("text", 0, 1), back()))),
		},
		api.BadZero: {
			program(mainOf(2, block(show(0), set(0, 4), calc(0, 0, "/", 1), show(0), back()))),
			program(mainOf(2, block(calc(0, 0, "%", 1), show(0), back()))), // what comes of it is asked
			program(mainOf(2, block(show(0), calc(0, 0, "%", 1), back()))), // what comes of it is not asked
			program(mainOf(1, block(fail(api.BadZero)))),
		},
		api.BadDeep: {program(mainOf(0, block(invoke("f", nil), back())), forever), program(mainOf(1, block(fail(api.BadDeep))))},
		api.BadRoom: {
			program(mainOf(1, block(set(0, 60), room(0, 0), show(0), set(0, 60), room(0, 0), show(0), back()))),
			program(mainOf(1, block(fail(api.BadRoom)))),
		},
		api.Spent:   {program(mainOf(1, block(show(0), jump(1)), block(set(0, 3), jump(1)))), program(mainOf(0, block(jump(0))))},
		api.BadLong: {program(lines)},
	}
}

func TestEndings(t *testing.T) {
	for end, programs := range endings() {
		for i, p := range programs {
			if got := wantSame(t, end, p, 100, 20000); got.End != end {
				t.Errorf("%d, %d: ends by %d", end, i, got.End)
			}
		}
	}
}

// TestLittleFuel: whatever fuel both have, what the one printed is how what the other one printed begins.
func TestLittleFuel(t *testing.T) {
	d := die(11)
	var programs []api.Program
	for _, l := range endings() {
		programs = append(programs, l...)
	}
	for range 60 {
		programs = append(programs, calm(&d))
	}
	for i, p := range programs {
		m := machine(t, i, p)
		for fuel := range 120 {
			for _, more := range []int{0, 1, 3, 10, 300} {
				a, _ := ir.Run(p, 60, fuel)
				b, _ := vm.Run(m, 60, fuel+more)
				same := a.End == b.End && len(a.Lines) == len(b.Lines) && begins(a, b)
				if !same && !(a.End == api.Spent && begins(a, b)) && !(b.End == api.Spent && begins(b, a)) {
					t.Fatalf("%d, fuel %d and %d: %+v, %+v: %+v", i, fuel, fuel+more, a, b, p)
				}
			}
		}
	}
}

// TestNumbers: all bits of a number come through slots.
func TestNumbers(t *testing.T) {
	same := function("same", 1, 1, 1, block(back(0)))
	for _, n := range []int{0, 1, -1, math.MaxInt, math.MinInt, 1 << 40} {
		var ins, shows []api.Instr
		var want []string
		for v := range 12 {
			ins, shows = append(ins, set(v, n), invoke("same", []int{v}, v)), append(shows, show(v))
			want = append(want, strconv.Itoa(n))
		}
		wantRun(t, n, program(mainOf(12, append(append(ins, shows...), back())), same), api.Done, want...)
	}
}

// TestNeedless: what an operator does not ask for is nothing in machine code.
func TestNeedless(t *testing.T) {
	c := mainOf(2, block(set(0, 7), move(1, 0), calc(1, 1, "*", 0), room(0, 0), store(0, 1, 1), load(1, 0, 1), show(1), choose(1, 1, 1)),
		block(invoke("main", nil), pick(0, 2)), block(jump(3)), block(fail(api.BadAt)), block(back()))
	plain := mustAlloc(t, "plain", program(c), c)
	for _, b := range c.Blocks {
		for i := range b {
			in := &b[i]
			if in.Op != api.Const && in.Op != api.Load && in.Op != api.Store && in.Op != api.Fail {
				in.N = 77
			}
			if in.S == "" {
				in.S = "needless"
			}
		}
	}
	if m := mustAlloc(t, "needless", program(c), c); !reflect.DeepEqual(m, plain) {
		t.Errorf("%+v; want %+v", m, plain)
	}
}

// TestOutside: code need be none of the functions of the program that it calls.
func TestOutside(t *testing.T) {
	f := function("f", 1, 1, 2, block(set(1, 1), calc(0, 0, "+", 1), back(0)))
	g := function("g", 0, 1, 3, block(set(0, 4), invoke("f", []int{1}, 0), invoke("f", []int{0}, 1), calc(2, 0, "*", 1), back(2)))
	m := mustAlloc(t, "outside", program(f), g)
	main := mainOf(1, block(invoke("g", []int{0}), show(0), back()))
	whole := program(main, f, g)
	q := program(mustAlloc(t, "main", whole, main), mustAlloc(t, "f", program(), f), m)
	if r, errno := vm.Run(q, 0, 100); errno != api.OK || r.End != api.Done || len(r.Lines) != 1 || r.Lines[0] != "30" {
		t.Errorf("%+v, %v", r, errno)
	}
	if _, errno := alloc.Alloc(program(), g); errno != api.ErrNone {
		t.Errorf("without f: %v", errno)
	}
}
