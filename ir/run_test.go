package ir_test

import (
	"fmt"
	"math/big"
	"slices"
	"strconv"
	"strings"
	"testing"

	"postern/api"
	"postern/ir"
)

// straight: a program of one block with so many variables; it has a Back at its end.
func straight(vars int, ins ...api.Instr) api.Program {
	return program(mainOf(vars, append(ins, back())))
}

// withData: a program that has words on its heap.
func withData(p api.Program, data ...int) api.Program {
	p.Data = data
	return p
}

func TestRunRefuses(t *testing.T) {
	good := withData(straight(0), 1, 2, 3)
	wrong := withData(straight(0, set(0, 1)), 1, 2, 3)
	for _, c := range []struct {
		what       string
		p          api.Program
		heap, fuel int
		want       api.Errno
	}{
		{"just its data", good, 3, 1, api.OK},
		{"no room for its data", good, 2, 1, api.ErrRange},
		{"heap below 0", straight(0), -1, 1, api.ErrRange},
		{"no heap", straight(0), 0, 1, api.OK},
		{"most heap", good, api.MaxHeap, 1, api.OK},
		{"more heap", good, api.MaxHeap + 1, 1, api.ErrRange},
		{"far more heap", good, greatest, 1, api.ErrRange},
		{"no fuel", good, 3, 0, api.OK},
		{"fuel below 0", good, 3, -1, api.ErrRange},
		{"most fuel", good, 3, api.MaxFuel, api.OK},
		{"more fuel", good, 3, api.MaxFuel + 1, api.ErrRange},
		{"far less fuel", good, 3, least, api.ErrRange},
		{"wrong code", wrong, 3, 1, api.ErrRange},
		{"no program, no heap", program(), -1, -1, api.ErrNone},
		{"wrong form, no heap", program(mainOf(1, block(set(0, 0)))), -1, 1, api.ErrForm},
	} {
		r, errno := ir.Run(c.p, c.heap, c.fuel)
		if errno != c.want {
			t.Errorf("%s: %v, want %v", c.what, errno, c.want)
		}
		if errno != api.OK && (r.End != 0 || len(r.Lines) > 0) {
			t.Errorf("%s: %v, and yet %v", c.what, errno, r)
		}
	}
}

// TestFuel: each instruction is one step, whatever it does; the one that ends the run, too.
func TestFuel(t *testing.T) {
	f := api.Code{Name: "f", Results: 1, Vars: 1, Blocks: [][]api.Instr{{set(0, 8), back(0)}}}
	p := program(mainOf(2,
		block(set(0, 7), show("int", 0), jump(1)),                                     // 3 steps
		block(invoke("f", []int{1}), show("int", 1), pick(0, 0, 2)),                   // 5
		block(choose(0, 3, 0)),                                                        // 1
		block(alloc(1, 0), store(1, 0, 0), load(0, 1, 0), calc(0, 0, "-", 0), back()), // 5
	), f)
	for fuel := range 20 {
		end, lines := api.Spent, []string{"7", "8"}
		switch {
		case fuel < 2:
			lines = nil
		case fuel < 7:
			lines = lines[:1]
		case fuel >= 14:
			end = api.Done
		}
		wantSteps(t, fmt.Sprint("fuel ", fuel), p, 7, fuel, end, lines...)
	}
	wantSteps(t, "a fault takes a step, too", program(mainOf(0, block(fail(api.BadRoom)))), 0, 1, api.BadRoom)
	wantSteps(t, "no fuel for the fault", program(mainOf(0, block(fail(api.BadRoom)))), 0, 0, api.Spent)
	wantRun(t, "a loop", program(mainOf(0, block(jump(0)))), 0, api.Spent)
}

// TestCounting: a loop of four steps a round takes nearly all the fuel there can be.
func TestCounting(t *testing.T) {
	rounds := api.MaxFuel/4 - 2
	p := program(mainOf(3,
		block(set(1, 1), set(2, rounds), jump(1)),
		block(calc(0, 0, "+", 1), calc(2, 2, "-", 1), jump(2)),
		block(choose(2, 1, 3)),
		block(show("int", 0), back()),
	))
	steps := 3 + 4*rounds + 2
	wantSteps(t, "all steps", p, 0, steps, api.Done, strconv.Itoa(rounds))
	wantSteps(t, "one less", p, 0, steps-1, api.Spent, strconv.Itoa(rounds))
	wantSteps(t, "two less", p, 0, steps-2, api.Spent)
}

func TestVariablesAreZeroAtFirst(t *testing.T) {
	wantRun(t, "main", straight(3, show("int", 0), show("int", 2), set(2, 5), show("int", 2)), 0, api.Done, "0", "0", "5")
	f := api.Code{Name: "f", Params: 1, Results: 2, Vars: 3, Blocks: [][]api.Instr{
		{show("int", 0), show("int", 1), show("int", 2), set(1, 8), set(2, 9), back(1, 2)}}}
	p := program(mainOf(3, block(set(0, 1), invoke("f", []int{1, 2}, 0), invoke("f", []int{2, 1}, 1), show("int", 1), show("int", 2), back())), f)
	wantRun(t, "a function twice", p, 0, api.Done, "1", "0", "0", "8", "0", "0", "9", "8")
}

func TestConstAndMove(t *testing.T) {
	for _, n := range []int{0, 1, -1, 255, api.MaxNumber + 1, least, greatest} {
		wantRun(t, n, straight(2, set(0, n), move(1, 0), set(0, 3), show("int", 1), move(1, 1), show("int", 1)), 0, api.Done, strconv.Itoa(n), strconv.Itoa(n))
	}
}

// round: the number of 64 bits that a number becomes.
func round(n *big.Int) int {
	m := new(big.Int).And(n, new(big.Int).SetUint64(1<<64-1)).Uint64()
	return int(m)
}

// result of an operator, by numbers of any length; false: it is divided by 0.
func result(op string, a, b int) (int, bool) {
	x, y, z := big.NewInt(int64(a)), big.NewInt(int64(b)), new(big.Int)
	is := func(so bool) (int, bool) {
		return map[bool]int{true: 1, false: 0}[so], true
	}
	switch op {
	case "+":
		return round(z.Add(x, y)), true
	case "-":
		return round(z.Sub(x, y)), true
	case "*":
		return round(z.Mul(x, y)), true
	case "/", "%":
		if b == 0 {
			return 0, false
		}
		if op == "/" {
			return round(z.Quo(x, y)), true
		}
		return round(z.Rem(x, y)), true
	case "==":
		return is(x.Cmp(y) == 0)
	case "!=":
		return is(x.Cmp(y) != 0)
	case "<":
		return is(x.Cmp(y) < 0)
	case "<=":
		return is(x.Cmp(y) <= 0)
	case ">":
		return is(x.Cmp(y) > 0)
	}
	return is(x.Cmp(y) >= 0)
}

func TestMath(t *testing.T) {
	numbers := []int{0, 1, -1, 2, -2, 3, -3, 7, -7, 10, 1 << 31, 1<<32 + 1, -1 << 32, 3037000500, least, least + 1, greatest, greatest - 1}
	for _, op := range []string{"+", "-", "*", "/", "%", "==", "!=", "<", "<=", ">", ">="} {
		for _, a := range numbers {
			for _, b := range numbers {
				what := fmt.Sprint(a, op, b)
				p := straight(3, set(0, a), set(1, b), calc(2, 0, op, 1), show("int", 2))
				n, ok := result(op, a, b)
				if !ok {
					wantRun(t, what, p, 0, api.BadZero)
					continue
				}
				wantRun(t, what, p, 0, api.Done, strconv.Itoa(n))
			}
		}
	}
}

// TestMathExamples: what the chapter says of quotients.
func TestMathExamples(t *testing.T) {
	for _, c := range []struct {
		a    int
		op   string
		b    int
		want int
	}{
		{7, "/", 2, 3}, {-7, "/", 2, -3}, {7, "/", -2, -3}, {-7, "/", -2, 3},
		{7, "%", 2, 1}, {-7, "%", 2, -1}, {7, "%", -2, 1}, {-7, "%", -2, -1},
		{5, "/", -1, -5}, {least, "/", -1, least}, {least, "%", -1, 0},
		{greatest, "+", 1, least}, {least, "-", 1, greatest}, {least, "*", -1, least},
		{2, "<", 2, 0}, {2, "<=", 2, 1}, {2, ">", 2, 0}, {2, ">=", 2, 1}, {-1, "<", 1, 1}, {least, "<", greatest, 1},
	} {
		p := straight(2, set(0, c.a), set(1, c.b), calc(0, 0, c.op, 1), show("int", 0))
		wantRun(t, fmt.Sprint(c.a, c.op, c.b), p, 0, api.Done, strconv.Itoa(c.want))
	}
}

// TestSameVariable: arguments are asked ahead of the result being set.
func TestSameVariable(t *testing.T) {
	wantRun(t, "math", straight(1, set(0, 6), calc(0, 0, "*", 0), show("int", 0)), 0, api.Done, "36")
	wantRun(t, "load", withData(straight(1, set(0, 1), load(0, 0, 0), show("int", 0)), 4, 5), 2, api.Done, "5")
	wantRun(t, "alloc", withData(straight(1, set(0, 3), alloc(0, 0), show("int", 0)), 4, 5), 9, api.Done, "2")
	wantRun(t, "store", withData(straight(1, set(0, 1), store(0, 0, 0), load(0, 0, 0), show("int", 0)), 4, 5), 2, api.Done, "1")
}

// TestFaultKeepsLines: what was printed ahead of it stays.
func TestFaultKeepsLines(t *testing.T) {
	wantRun(t, "by 0", straight(1, show("int", 0), calc(0, 0, "%", 0), show("int", 0)), 0, api.BadZero, "0")
	wantRun(t, "a word", straight(1, show("bool", 0), load(0, 0, 0), show("int", 0)), 0, api.BadAt, "false")
}

func TestLoadAndStore(t *testing.T) {
	for _, c := range []struct {
		address, n int
		at         int // which word it is; -1: none
	}{
		{0, 0, 0}, {2, 0, 2}, {0, 2, 2}, {1, 1, 2}, {2, -2, 0}, {9, -8, 1}, {3, -1, 2}, {greatest, -greatest, 0},
		{3, 0, -1}, {0, 3, -1}, {2, 1, -1}, {0, -1, -1}, {2, -3, -1}, {-1, 0, -1}, {-1, 1, -1}, {-1, 3, -1},
		{least, 0, -1}, {least, greatest, -1}, {-greatest, greatest, -1}, {greatest, 0, -1}, {greatest, 1, -1}, {greatest, greatest, -1}, {1, greatest, -1}, {2, least, -1}, {greatest, least, -1}, {0, least, -1},
	} {
		p := withData(straight(3, set(0, c.address), load(1, 0, c.n), show("int", 1)), 10, 11, 12)
		q := withData(straight(4, set(0, c.address), set(1, 99), store(0, c.n, 1),
			load(1, 2, 0), show("int", 1), load(1, 2, 1), show("int", 1), load(1, 2, 2), show("int", 1)), 10, 11, 12)
		what := fmt.Sprint(c.n, " behind ", c.address)
		if c.at < 0 {
			wantRun(t, what, p, 20, api.BadAt)
			wantRun(t, what, q, 20, api.BadAt)
			continue
		}
		words := []string{"10", "11", "12"}
		wantRun(t, what, p, 20, api.Done, words[c.at])
		words[c.at] = "99"
		wantRun(t, what, q, 20, api.Done, words...)
	}
	wantRun(t, "there are no words", straight(1, load(0, 0, 0)), 20, api.BadAt)
	wantRun(t, "there are none to change", straight(1, store(0, 0, 0)), 20, api.BadAt)
}

func TestAlloc(t *testing.T) {
	for _, c := range []struct {
		data, room, n int
		end           int
	}{
		{0, 0, 0, api.Done}, {0, 0, 1, api.BadRoom}, {0, 5, 5, api.Done}, {0, 5, 6, api.BadRoom},
		{3, 3, 0, api.Done}, {3, 3, 1, api.BadRoom}, {3, 5, 2, api.Done}, {3, 5, 3, api.BadRoom},
		{3, 5, -1, api.BadAt}, {3, 3, -1, api.BadAt}, {3, 5, -3, api.BadAt}, {3, 5, least, api.BadAt}, {3, 5, greatest, api.BadRoom},
		{0, api.MaxHeap, api.MaxHeap, api.Done}, {0, api.MaxHeap, api.MaxHeap + 1, api.BadRoom},
	} {
		p := withData(straight(2, set(0, c.n), alloc(1, 0), show("int", 1)), make([]int, c.data)...)
		what := fmt.Sprintf("%d words, %d there, room for %d", c.n, c.data, c.room)
		if c.end != api.Done {
			wantRun(t, what, p, c.room, c.end)
			continue
		}
		wantRun(t, what, p, c.room, c.end, strconv.Itoa(c.data))
	}
}

// TestAllocatedWords: they are there, and 0; the one behind them is not there.
func TestAllocatedWords(t *testing.T) {
	words := block(
		set(0, 2), alloc(1, 0), alloc(2, 0), show("int", 1), show("int", 2), // words 1, 2 and 3, 4
		load(3, 1, 0), show("int", 3), load(3, 1, 3), show("int", 3),
		store(1, 2, 0), load(3, 2, 0), show("int", 3),
		alloc(1, 3), show("int", 1), // words 5, 6
		load(3, 2, 3), show("int", 3),
	)
	lines := []string{"1", "3", "0", "0", "2", "5", "0"}
	wantRun(t, "words", withData(straight(4, words...), 77), 7, api.Done, lines...)
	wantRun(t, "one word too few", withData(straight(4, words...), 77), 6, api.BadRoom, lines[:5]...)
	words = append(words, load(3, 2, 4))
	wantRun(t, "a word too far", withData(straight(4, words...), 77), 20, api.BadAt, lines...)
}

// TestRoomIsNotThere: words that the heap can have are not there till they are allocated.
func TestRoomIsNotThere(t *testing.T) {
	wantRun(t, "load", withData(straight(1, load(0, 0, 1)), 5), 20, api.BadAt)
	wantRun(t, "store", withData(straight(1, store(0, 1, 0)), 5), 20, api.BadAt)
	wantRun(t, "show", withData(straight(2, set(1, 2), show("text", 0, 1)), 65), 20, api.BadAt)
	roomy := withData(straight(1, load(0, 0, 1)), append(make([]int, 0, 9), 5)...)
	wantRun(t, "spare room of the data", roomy, 20, api.BadAt)
}

// TestOldRoomIsZero: words that are allocated are 0, though there are others behind the data's list.
func TestOldRoomIsZero(t *testing.T) {
	data := []int{1, 2, 3, 4}
	p := withData(straight(2, set(0, 3), alloc(1, 0), store(1, 1, 0), load(1, 1, 0), show("int", 1)), data[:1]...)
	wantRun(t, "zero", p, 20, api.Done, "0")
	if !slices.Equal(data, []int{1, 2, 3, 4}) {
		t.Errorf("the data's spare room is changed: %v", data)
	}
}

func TestShowNumbers(t *testing.T) {
	for n, want := range map[int]string{0: "0", 7: "7", -7: "-7", 1000000: "1000000", least: "-9223372036854775808", greatest: "9223372036854775807"} {
		wantRun(t, n, straight(1, set(0, n), show("int", 0)), 0, api.Done, want)
		truth := "true"
		if n == 0 {
			truth = "false"
		}
		wantRun(t, n, straight(1, set(0, n), show("bool", 0)), 0, api.Done, truth)
	}
	wantRun(t, "1", straight(1, set(0, 1), show("bool", 0)), 0, api.Done, "true")
	wantRun(t, "256", straight(1, set(0, 256), show("bool", 0)), 0, api.Done, "true")
}

func TestShowTexts(t *testing.T) {
	data := []int{'a', 'b', 0, 255, 256 + 'c', -1, 'd' - 512, '\n', least + 'e'}
	all := "ab\x00\xffc\xffd\ne"
	for _, c := range []struct {
		address, n int
		want       string
		there      bool
	}{
		{0, 9, all, true}, {0, 1, "a", true}, {1, 1, "b", true}, {3, 4, all[3:7], true}, {8, 1, "e", true},
		{0, 0, "", true}, {8, 0, "", true}, {9, 0, "", true}, {10, 0, "", true}, {-1, 0, "", true}, {least, 0, "", true}, {greatest, 0, "", true},
		{0, 10, "", false}, {9, 1, "", false}, {8, 2, "", false}, {1, 9, "", false}, {-1, 1, "", false}, {-1, 10, "", false}, {-1, 5, "", false},
		{0, -1, "", false}, {5, -1, "", false}, {5, -5, "", false}, {9, -9, "", false}, {0, least, "", false}, {greatest, least, "", false},
		{0, greatest, "", false}, {5, greatest, "", false}, {greatest, 1, "", false}, {greatest, greatest, "", false}, {least, 1, "", false}, {least, greatest, "", false}, {least, least, "", false},
	} {
		p := withData(straight(2, set(0, c.address), set(1, c.n), show("text", 0, 1)), data...)
		what := fmt.Sprint(c.n, " words from ", c.address)
		if c.there {
			wantRun(t, what, p, 20, api.Done, c.want)
		} else {
			wantRun(t, what, p, 20, api.BadAt)
		}
	}
}

// TestShownTextStays: a line is what the words were then.
func TestShownTextStays(t *testing.T) {
	p := withData(straight(3, set(1, 2), show("text", 0, 1), set(2, 'x'), store(0, 0, 2), show("text", 0, 1)), 'o', 'k')
	wantRun(t, "line", p, 2, api.Done, "ok", "xk")
}

// TestLongestText: all words of the greatest heap.
func TestLongestText(t *testing.T) {
	p := straight(3, set(0, api.MaxHeap), alloc(1, 0), show("text", 1, 0))
	wantRun(t, "all", p, api.MaxHeap, api.Done, strings.Repeat("\x00", api.MaxHeap))
}

// printer prints so many lines, then it does something else.
func printer(lines int, then ...api.Instr) api.Program {
	return withData(program(mainOf(4,
		block(set(0, lines), set(1, 1), jump(1)),
		block(choose(0, 2, 3)),
		block(show("int", 0), calc(0, 0, "-", 1), jump(1)),
		append(then, back()),
	)), 'a')
}

func TestMostLines(t *testing.T) {
	var want []string
	for n := api.MaxPrint; n > 0; n-- {
		want = append(want, strconv.Itoa(n))
	}
	wantRun(t, "most", printer(api.MaxPrint), 1, api.Done, want...)
	wantRun(t, "most, and a word that is not there", printer(api.MaxPrint, load(0, 1, 0)), 1, api.BadAt, want...)
	for _, in := range []api.Instr{show("int", 0), show("bool", 0), show("text", 0, 1), show("text", 0, 0), show("text", 1, 1)} {
		wantRun(t, fmt.Sprintf("most, and %+v", in), printer(api.MaxPrint, in), 1, api.BadLong, want...)
	}
	wantRun(t, "less, and a text that is not there", printer(api.MaxPrint-1, show("text", 1, 1)), 1, api.BadAt, want[1:]...)
	wantRun(t, "less, and a text", printer(api.MaxPrint-1, show("text", 0, 1)), 1, api.Done, append(want[1:], "a")...)
}

// ways: a program whose first block goes on with others; each of them prints its place.
func ways(n int, last api.Instr) api.Program {
	c := mainOf(2, block(set(0, n), last))
	for i := 1; i < 5; i++ {
		c.Blocks = append(c.Blocks, block(set(1, i), show("int", 1), back()))
	}
	return program(c)
}

func TestJumps(t *testing.T) {
	for _, c := range []struct {
		n    int
		last api.Instr
		want string
	}{
		{0, jump(1), "1"}, {0, jump(4), "4"},
		{0, choose(0, 1, 2), "2"}, {1, choose(0, 1, 2), "1"}, {-1, choose(0, 1, 2), "1"}, {2, choose(0, 3, 4), "3"}, {least, choose(0, 3, 4), "3"}, {256, choose(0, 3, 4), "3"},
		{0, pick(0, 3), "3"}, {1, pick(0, 3), "3"}, {-1, pick(0, 3), "3"},
		{0, pick(0, 4, 2, 3), "4"}, {1, pick(0, 4, 2, 3), "2"}, {2, pick(0, 4, 2, 3), "3"}, {3, pick(0, 4, 2, 3), "3"}, {-1, pick(0, 4, 2, 3), "3"}, {least, pick(0, 4, 2, 3), "3"}, {greatest, pick(0, 4, 2, 3), "3"},
	} {
		wantRun(t, fmt.Sprintf("%d %+v", c.n, c.last), ways(c.n, c.last), 0, api.Done, c.want)
	}
}

func TestFails(t *testing.T) {
	for _, n := range []int{api.BadAt, api.BadZero, api.BadDeep, api.BadRoom} {
		wantRun(t, n, program(mainOf(1, block(show("int", 0), fail(n)))), 0, n, "0")
		f := api.Code{Name: "f", Blocks: [][]api.Instr{{fail(n)}}}
		wantRun(t, n, program(mainOf(1, block(invoke("f", nil), show("int", 0), back())), f), 0, n)
	}
}

// TestCalls: arguments and results in their order, each call with variables of its own.
func TestCalls(t *testing.T) {
	swap := api.Code{Name: "swap", Params: 3, Results: 3, Vars: 4, Blocks: [][]api.Instr{
		{show("int", 0), show("int", 1), show("int", 2), jump(1)},
		{move(3, 0), set(0, 50), set(1, 51), back(2, 3, 3)},
	}}
	p := program(mainOf(5, block(
		set(0, 10), set(1, 11), set(2, 12),
		invoke("swap", []int{4, 2, 0}, 0, 2, 1),
		show("int", 0), show("int", 1), show("int", 2), show("int", 3), show("int", 4), back())), swap)
	wantRun(t, "swap", p, 0, api.Done, "10", "12", "11", "10", "11", "10", "0", "11")
	p = program(mainOf(1, block(invoke("one", []int{0}), show("int", 0), invoke("none", nil), show("int", 0), back())),
		api.Code{Name: "none", Vars: 1, Blocks: [][]api.Instr{{set(0, 9), back()}}},
		api.Code{Name: "one", Results: 1, Vars: 1, Blocks: [][]api.Instr{{invoke("none", nil), show("int", 0), set(0, 8), back(0)}}})
	wantRun(t, "none", p, 0, api.Done, "0", "8", "8")
}

// TestFactorials: a call's variables are as they were when what it called ends.
func TestFactorials(t *testing.T) {
	f := api.Code{Name: "f", Params: 1, Results: 1, Vars: 3, Blocks: [][]api.Instr{
		{choose(0, 2, 1)},
		{set(1, 1), back(1)},
		{set(2, 1), calc(1, 0, "-", 2), invoke("f", []int{1}, 1), calc(1, 1, "*", 0), back(1)},
	}}
	p := program(mainOf(1, block(set(0, 20), invoke("f", []int{0}, 0), show("int", 0), back())), f)
	wantRun(t, "20", p, 0, api.Done, "2432902008176640000")
}

// TestDepth: the first function is a call, too.
func TestDepth(t *testing.T) {
	f := api.Code{Name: "f", Params: 1, Vars: 2, Blocks: [][]api.Instr{
		{choose(0, 1, 2)},
		{set(1, 1), calc(0, 0, "-", 1), invoke("f", nil, 0), show("int", 0), back()},
		{back()},
	}}
	deep := func(n int) api.Program {
		return program(mainOf(1, block(set(0, n), invoke("f", nil, 0), invoke("f", nil, 0), back())), f)
	}
	var lines []string
	for i := range 2 * (api.MaxCalls - 2) {
		lines = append(lines, strconv.Itoa(i%(api.MaxCalls-2)))
	}
	wantRun(t, "most", deep(api.MaxCalls-2), 0, api.Done, lines...)
	wantRun(t, "one more", deep(api.MaxCalls-1), 0, api.BadDeep)
	wantRun(t, "the first one calls itself", program(mainOf(1, block(show("int", 0), invoke("main", nil), back()))), 0, api.BadDeep, repeated(api.MaxCalls, "0")...)
}

// TestFirstOneIsCalled: its Back ends the run only if nothing called it.
func TestFirstOneIsCalled(t *testing.T) {
	p := withData(program(mainOf(2,
		block(load(0, 1, 0), show("int", 0), choose(0, 1, 2)),
		block(store(1, 0, 1), invoke("main", nil), show("int", 0), back()),
		block(back()))), 6)
	wantRun(t, "main twice", p, 1, api.Done, "6", "0", "6")
}

// TestOneHeap: all calls have the same heap.
func TestOneHeap(t *testing.T) {
	f := api.Code{Name: "f", Params: 1, Results: 1, Vars: 2, Blocks: [][]api.Instr{{set(1, 3), store(0, 0, 1), alloc(0, 1), back(0)}}}
	p := withData(program(mainOf(3, block(set(0, 1), invoke("f", []int{1}, 0), show("int", 1), load(1, 0, 0), show("int", 1), load(1, 0, 3), show("int", 1), back())), f), 5, 6)
	wantRun(t, "heap", p, 5, api.Done, "2", "3", "0")
	wantRun(t, "no room", p, 4, api.BadRoom)
}

// TestManyVariables: a call with most variables, again and again, has zeros each time.
func TestManyVariables(t *testing.T) {
	f := api.Code{Name: "f", Results: 1, Vars: api.MaxVars, Blocks: [][]api.Instr{{move(0, api.MaxVars-1), set(api.MaxVars-1, 4), back(0)}}}
	p := program(mainOf(2, block(invoke("f", []int{0}), calc(1, 1, "+", 0), choose(1, 1, 0)), block(show("int", 1), back())), f)
	wantRun(t, "zeros", p, 0, api.Spent)
}
