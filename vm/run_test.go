package vm_test

import (
	"fmt"
	"slices"
	"strconv"
	"strings"
	"testing"

	"postern/api"
	"postern/vm"
)

func TestRunRefuses(t *testing.T) {
	good := withData(straight(0), 1, 2, 3)
	wrong := withData(straight(0, from(0, 0)), 1, 2, 3)
	for _, c := range []struct {
		what       string
		p          api.Program
		heap, fuel int
		want       api.Errno
	}{
		{"just its data", good, 3, 1, api.OK},
		{"no room for its data", good, 2, 1, api.ErrRange},
		{"heap below 0", straight(0), -1, 1, api.ErrRange},
		{"no heap", straight(0), 0, 1, api.OK},
		{"most heap", good, api.MaxHeap, 1, api.OK},
		{"more heap", good, api.MaxHeap + 1, 1, api.ErrRange},
		{"far more heap", good, greatest, 1, api.ErrRange},
		{"no fuel", good, 3, 0, api.OK},
		{"fuel below 0", good, 3, -1, api.ErrRange},
		{"as much fuel as code has", good, 3, api.MaxFuel + 1, api.OK},
		{"most fuel", good, 3, 10 * api.MaxFuel, api.OK},
		{"more fuel", good, 3, 10*api.MaxFuel + 1, api.ErrRange},
		{"far more fuel", good, 3, greatest, api.ErrRange},
		{"far less fuel", good, 3, least, api.ErrRange},
		{"wrong code", wrong, 3, 1, api.ErrRange},
		{"no program, no heap", program(), -1, -1, api.ErrNone},
		{"wrong form, no heap", program(mainOf(1, block(set(0, 0)))), -1, 1, api.ErrForm},
	} {
		r, errno := vm.Run(c.p, c.heap, c.fuel)
		if errno != c.want {
			t.Errorf("%s: %v, want %v", c.what, errno, c.want)
		}
		if errno != api.OK && (r.End != 0 || len(r.Lines) > 0) {
			t.Errorf("%s: %v, and yet %v", c.what, errno, r)
		}
	}
}

// TestFuel: each instruction is one step, whatever it does; the one that ends the run, too.
func TestFuel(t *testing.T) {
	f := api.Code{Name: "f", Results: 1, Vars: 1, Slots: 1, Blocks: [][]api.Instr{{set(0, 8), keep(0, 0), back(0)}}}
	p := program(mainOf(2,
		block(set(0, 7), show("int", 0), jump(1)),                                     // 3 steps
		block(invoke("f", []int{1}), from(1, 1), show("int", 1), pick(0, 0, 2)),       // 7
		block(choose(0, 3, 0)),                                                        // 1
		block(alloc(1, 0), store(1, 0, 0), load(0, 1, 0), calc(0, 0, "-", 0), back()), // 5
	), f)
	for fuel := range 20 {
		end, lines := api.Spent, []string{"7", "8"}
		switch {
		case fuel < 2:
			lines = nil
		case fuel < 9:
			lines = lines[:1]
		case fuel >= 16:
			end = api.Done
		}
		wantSteps(t, fmt.Sprint("fuel ", fuel), p, 7, fuel, end, lines...)
	}
	wantSteps(t, "a fault takes a step, too", program(mainOf(0, block(fail(api.BadRoom)))), 0, 1, api.BadRoom)
	wantSteps(t, "no fuel for the fault", program(mainOf(0, block(fail(api.BadRoom)))), 0, 0, api.Spent)
	wantSteps(t, "a loop", program(mainOf(0, block(jump(0)))), 0, 10*api.MaxFuel, api.Spent)
}

// TestCounting: a loop of five steps a round takes nearly all the fuel there can be.
func TestCounting(t *testing.T) {
	rounds := 10*api.MaxFuel/5 - 2
	p := program(mainOf(1,
		block(set(1, 1), set(2, rounds), jump(1)),
		block(from(0, 0), calc(0, 0, "+", 1), keep(0, 0), calc(2, 2, "-", 1), choose(2, 1, 2)),
		block(from(3, 0), show("int", 3), back()),
	))
	steps := 3 + 5*rounds + 3
	wantSteps(t, "all steps", p, 0, steps, api.Done, strconv.Itoa(rounds))
	wantSteps(t, "one less", p, 0, steps-1, api.Spent, strconv.Itoa(rounds))
	wantSteps(t, "two less", p, 0, steps-2, api.Spent)
}

// fullMain: a first function that has a number other than 0 in each register and slot, and does more then.
func fullMain(slots int, then ...api.Instr) api.Code {
	var ins []api.Instr
	for r := range api.Regs {
		ins = append(ins, set(r, 70+r))
	}
	for s := range slots {
		ins = append(ins, keep(s, 0))
	}
	return mainOf(slots, append(append(ins, then...), back()))
}

// tell prints each register, and then each slot.
func tell(slots int) []api.Instr {
	var ins []api.Instr
	for r := range api.Regs {
		ins = append(ins, show("int", r))
	}
	for s := range slots {
		ins = append(ins, from(0, s), show("int", 0))
	}
	return ins
}

// TestZeros: in each call the arguments are the first slots, and the other slots and all registers are 0.
func TestZeros(t *testing.T) {
	zeros := repeated(api.Regs, "0")
	wantRun(t, "the first call", straight(3, tell(3)...), 0, api.Done, append(zeros, "0", "0", "0")...)
	f := mainOf(5, append(tell(5), fullMain(5).Blocks[0]...))
	f.Name, f.Params = "f", 2
	set56 := []api.Instr{set(0, 5), keep(1, 0), set(0, 6), keep(2, 0)}
	call := append(zeros, "5", "6", "0", "0", "0")
	wantRun(t, "one call", program(fullMain(4, append(set56, invoke("f", nil, 1, 2))...), f), 0, api.Done, call...)
	twice := append(set56, invoke("f", nil, 1, 2), invoke("f", nil, 2, 2))
	wantRun(t, "two calls", program(fullMain(4, twice...), f), 0, api.Done, append(slices.Clone(call), append(zeros, "6", "6", "0", "0", "0")...)...)
	g := api.Code{Name: "g", Params: 1, Slots: 3, Vars: api.Regs, Blocks: [][]api.Instr{append(fullMain(3).Blocks[0][:api.Regs+3], invoke("f", nil, 0, 1), back())}}
	wantRun(t, "a call of a call", program(fullMain(2, invoke("g", nil, 0)), f, g), 0, api.Done, append(zeros, "70", "70", "0", "0", "0")...)
}

// TestFewRegisters: registers of a function that has fewer are 0, too, whatever was in others.
func TestFewRegisters(t *testing.T) {
	f := api.Code{Name: "f", Vars: 1, Results: 1, Slots: 1, Blocks: [][]api.Instr{{show("int", 0), set(0, 9), keep(0, 0), back(0)}}}
	none := api.Code{Name: "none", Params: 1, Results: 2, Slots: 2, Blocks: [][]api.Instr{{invoke("f", []int{1}), back(0, 1)}}}
	p := program(fullMain(3, invoke("none", []int{2, 1}, 0), from(1, 1), show("int", 1), from(1, 2), show("int", 1), show("int", 7)), f, none)
	wantRun(t, "registers", p, 0, api.Done, "0", "9", "70", "77")
}

// TestSlots: what is stored in one is what is loaded from there, and other slots stay.
func TestSlots(t *testing.T) {
	for _, n := range []int{0, 1, -1, 255, least, greatest} {
		p := straight(3, set(2, n), keep(1, 2), set(2, 5), from(3, 1), show("int", 3), show("int", 2), from(3, 0), show("int", 3), from(3, 2), show("int", 3))
		wantRun(t, n, p, 0, api.Done, strconv.Itoa(n), "5", "0", "0")
	}
	again := straight(1, set(0, 1), keep(0, 0), from(1, 0), set(0, 2), keep(0, 0), from(2, 0), from(3, 0), show("int", 1), show("int", 2), show("int", 3))
	wantRun(t, "stored twice", again, 0, api.Done, "1", "2", "2")
	last := api.MaxSlots - 1
	wantRun(t, "the last of most slots", straight(api.MaxSlots, set(0, 3), keep(last, 0), from(1, last), show("int", 1), from(1, last-1), show("int", 1)), 0, api.Done, "3", "0")
}

// TestSlotsAndCalls: slots that are stored and loaded ahead of a call and behind it; results are slots, and no registers.
func TestSlotsAndCalls(t *testing.T) {
	f := api.Code{Name: "f", Params: 2, Results: 2, Vars: 2, Slots: 4, Blocks: [][]api.Instr{{
		from(0, 0), from(1, 1), calc(0, 0, "-", 1), keep(3, 0), set(0, 50), keep(0, 0), keep(1, 0), keep(2, 0), back(3, 2)}}}
	say := func(slots ...int) []api.Instr {
		var ins []api.Instr
		for _, s := range slots {
			ins = append(ins, from(7, s), show("int", 7))
		}
		return ins
	}
	ahead := []api.Instr{set(0, 10), keep(0, 0), set(1, 3), keep(1, 1), set(2, 77), keep(4, 2)}
	p := straight(5, slices.Concat(ahead, block(invoke("f", []int{3, 2}, 0, 1)), say(0, 1, 2, 3, 4), block(show("int", 0), show("int", 1), show("int", 2), show("int", 3)))...)
	p.Funcs = append(p.Funcs, f)
	wantRun(t, "other slots", p, 0, api.Done, "10", "3", "50", "7", "77", "10", "3", "77", "0")
	p = straight(5, slices.Concat(ahead, block(invoke("f", []int{1, 0}, 1, 0)), say(0, 1, 4), block(keep(0, 2)), say(0, 1))...)
	p.Funcs = append(p.Funcs, f)
	wantRun(t, "slots of arguments", p, 0, api.Done, "50", "-7", "77", "77", "-7")
	p = straight(5, slices.Concat(ahead, block(invoke("f", []int{2, 3}, 1, 1), invoke("f", []int{4, 2}, 3, 0)), say(2, 3, 4))...)
	p.Funcs = append(p.Funcs, f)
	wantRun(t, "one slot twice", p, 0, api.Done, "50", "50", "40")
}

// TestManyWords: as many arguments and results as there can be, all in their order, though there are fewer registers.
func TestManyWords(t *testing.T) {
	places := make([]int, api.MaxWords)
	for i := range places {
		places[i] = i
	}
	turned := slices.Clone(places)
	slices.Reverse(turned)
	f := api.Code{Name: "f", Params: api.MaxWords, Results: api.MaxWords, Slots: api.MaxWords, Blocks: [][]api.Instr{{back(turned...)}}}
	var ins []api.Instr
	for i := range places {
		ins = append(ins, set(0, i), keep(i, 0))
	}
	shift := append(slices.Clone(places[1:]), 0)
	ins = append(ins, invoke("f", shift, places...))
	var want []string
	for i := range places {
		ins = append(ins, from(0, i), show("int", 0))
		want = append(want, strconv.Itoa((api.MaxWords-i)%api.MaxWords))
	}
	p := straight(api.MaxWords, ins...)
	p.Funcs = append(p.Funcs, f)
	wantRun(t, "turned", p, 0, api.Done, want...)
}

// TestRegistersAreKept: those of a call are as they were when what it called ends.
func TestRegistersAreKept(t *testing.T) {
	f := fullMain(1, set(7, 1))
	f.Name = "f"
	g := api.Code{Name: "main", Vars: api.Regs, Blocks: [][]api.Instr{slices.Concat(
		fullMain(0).Blocks[0][:api.Regs], block(invoke("f", nil), set(3, 5), invoke("f", nil)), tell(0), block(back()))}}
	wantRun(t, "registers", program(g, f), 0, api.Done, "70", "71", "72", "5", "74", "75", "76", "77")
}

// TestFactorials: a call's slots are as they were when what it called ends.
func TestFactorials(t *testing.T) {
	f := api.Code{Name: "f", Params: 1, Results: 1, Vars: 3, Slots: 2, Blocks: [][]api.Instr{
		{from(0, 0), choose(0, 2, 1)},
		{set(1, 1), keep(1, 1), back(1)},
		{set(2, 1), calc(1, 0, "-", 2), keep(1, 1), invoke("f", []int{1}, 1), from(1, 1), from(2, 0), calc(1, 1, "*", 2), keep(0, 1), back(0)},
	}}
	p := program(mainOf(2, block(set(0, 20), keep(0, 0), invoke("f", []int{1}, 0), from(0, 1), show("int", 0), back())), f)
	wantRun(t, "20", p, 0, api.Done, "2432902008176640000")
}

// TestDepth: the first function is a call, too.
func TestDepth(t *testing.T) {
	f := api.Code{Name: "f", Params: 1, Vars: 2, Slots: 1, Blocks: [][]api.Instr{
		{from(0, 0), choose(0, 1, 2)},
		{set(1, 1), calc(0, 0, "-", 1), keep(0, 0), invoke("f", nil, 0), show("int", 0), back()},
		{back()},
	}}
	deep := func(n int) api.Program {
		return program(mainOf(1, block(set(0, n), keep(0, 0), invoke("f", nil, 0), invoke("f", nil, 0), back())), f)
	}
	var lines []string
	for i := range 2 * (api.MaxCalls - 2) {
		lines = append(lines, strconv.Itoa(i%(api.MaxCalls-2)))
	}
	wantRun(t, "most", deep(api.MaxCalls-2), 0, api.Done, lines...)
	wantRun(t, "one more", deep(api.MaxCalls-1), 0, api.BadDeep)
	wantRun(t, "the first one calls itself", program(mainOf(1, block(show("int", 0), invoke("main", nil), back()))), 0, api.BadDeep, repeated(api.MaxCalls, "0")...)
}

// TestFirstOneIsCalled: its Back ends the run only if nothing called it.
func TestFirstOneIsCalled(t *testing.T) {
	p := withData(program(mainOf(2,
		block(load(0, 1, 0), show("int", 0), choose(0, 1, 2)),
		block(store(1, 0, 1), invoke("main", nil), show("int", 0), back()),
		block(back()))), 6)
	wantRun(t, "main twice", p, 1, api.Done, "6", "0", "6")
}

func TestConstAndMove(t *testing.T) {
	for _, n := range []int{0, 1, -1, 255, api.MaxNumber + 1, least, greatest} {
		wantRun(t, n, straight(0, set(7, n), move(1, 7), set(7, 3), show("int", 1), move(1, 1), show("int", 1)), 0, api.Done, strconv.Itoa(n), strconv.Itoa(n))
	}
}

func TestMath(t *testing.T) {
	for _, c := range []struct {
		a    int
		op   string
		b    int
		want int
	}{
		{7, "/", 2, 3}, {-7, "/", 2, -3}, {7, "/", -2, -3}, {-7, "/", -2, 3},
		{7, "%", 2, 1}, {-7, "%", 2, -1}, {7, "%", -2, 1}, {-7, "%", -2, -1},
		{5, "/", -1, -5}, {least, "/", -1, least}, {least, "%", -1, 0},
		{greatest, "+", 1, least}, {least, "-", 1, greatest}, {least, "*", -1, least},
		{2, "==", 2, 1}, {2, "==", 3, 0}, {2, "!=", 2, 0}, {2, "!=", 3, 1},
		{2, "<", 2, 0}, {2, "<=", 2, 1}, {2, ">", 2, 0}, {2, ">=", 2, 1}, {-1, "<", 1, 1}, {least, "<", greatest, 1},
	} {
		what := fmt.Sprint(c.a, c.op, c.b)
		wantRun(t, what, straight(0, set(0, c.a), set(1, c.b), calc(2, 0, c.op, 1), show("int", 2), show("int", 0)), 0, api.Done, strconv.Itoa(c.want), strconv.Itoa(c.a))
		wantRun(t, what, straight(0, set(0, c.a), set(1, c.b), calc(0, 0, c.op, 1), show("int", 0)), 0, api.Done, strconv.Itoa(c.want))
	}
	for _, op := range []string{"/", "%"} {
		wantRun(t, op, straight(0, show("bool", 0), calc(0, 0, op, 0), show("int", 0)), 0, api.BadZero, "false")
	}
}

func TestLoadAndStore(t *testing.T) {
	for _, c := range []struct {
		address, n int
		at         int // which word it is; -1: none
	}{
		{0, 0, 0}, {2, 0, 2}, {0, 2, 2}, {1, 1, 2}, {2, -2, 0}, {9, -8, 1}, {greatest, -greatest, 0},
		{3, 0, -1}, {0, 3, -1}, {2, 1, -1}, {0, -1, -1}, {-1, 1, -1}, {-1, 3, -1},
		{least, 0, -1}, {least, greatest, -1}, {greatest, 0, -1}, {greatest, 1, -1}, {greatest, greatest, -1}, {1, greatest, -1}, {2, least, -1}, {greatest, least, -1},
	} {
		p := withData(straight(0, set(0, c.address), load(1, 0, c.n), show("int", 1)), 10, 11, 12)
		q := withData(straight(0, set(0, c.address), set(1, 99), store(0, c.n, 1),
			load(1, 2, 0), show("int", 1), load(1, 2, 1), show("int", 1), load(1, 2, 2), show("int", 1)), 10, 11, 12)
		what := fmt.Sprint(c.n, " behind ", c.address)
		if c.at < 0 {
			wantRun(t, what, p, 20, api.BadAt)
			wantRun(t, what, q, 20, api.BadAt)
			continue
		}
		words := []string{"10", "11", "12"}
		wantRun(t, what, p, 20, api.Done, words[c.at])
		words[c.at] = "99"
		wantRun(t, what, q, 20, api.Done, words...)
	}
}

func TestAlloc(t *testing.T) {
	for _, c := range []struct {
		data, room, n int
		end           int
	}{
		{0, 0, 0, api.Done}, {0, 0, 1, api.BadRoom}, {0, 5, 5, api.Done}, {0, 5, 6, api.BadRoom},
		{3, 3, 0, api.Done}, {3, 3, 1, api.BadRoom}, {3, 5, 2, api.Done}, {3, 5, 3, api.BadRoom},
		{3, 5, -1, api.BadAt}, {3, 5, least, api.BadAt}, {3, 5, greatest, api.BadRoom},
		{0, api.MaxHeap, api.MaxHeap, api.Done}, {0, api.MaxHeap, api.MaxHeap + 1, api.BadRoom},
	} {
		p := withData(straight(0, set(0, c.n), alloc(1, 0), show("int", 1)), make([]int, c.data)...)
		what := fmt.Sprintf("%d words, %d there, room for %d", c.n, c.data, c.room)
		if c.end != api.Done {
			wantRun(t, what, p, c.room, c.end)
			continue
		}
		wantRun(t, what, p, c.room, c.end, strconv.Itoa(c.data))
	}
	data := []int{1, 2, 3, 4}
	p := withData(straight(0, set(0, 3), alloc(1, 0), store(1, 1, 0), load(1, 1, 0), show("int", 1)), data[:1]...)
	wantRun(t, "spare room of the data", p, 20, api.Done, "0")
	if !slices.Equal(data, []int{1, 2, 3, 4}) {
		t.Errorf("the data's spare room is changed: %v", data)
	}
}

// TestOneHeap: all calls have the same heap.
func TestOneHeap(t *testing.T) {
	f := api.Code{Name: "f", Params: 1, Results: 1, Vars: 2, Slots: 1, Blocks: [][]api.Instr{{from(0, 0), set(1, 3), store(0, 0, 1), alloc(0, 1), keep(0, 0), back(0)}}}
	p := withData(straight(1, set(0, 1), keep(0, 0), invoke("f", []int{0}, 0), from(1, 0), show("int", 1), load(1, 0, 0), show("int", 1), load(1, 0, 3), show("int", 1)), 5, 6)
	p.Funcs = append(p.Funcs, f)
	wantRun(t, "heap", p, 5, api.Done, "2", "3", "0")
	wantRun(t, "no room", p, 4, api.BadRoom)
}

func TestShow(t *testing.T) {
	for n, want := range map[int]string{0: "0 false", 7: "7 true", -7: "-7 true", 256: "256 true", least: "-9223372036854775808 true", greatest: "9223372036854775807 true"} {
		wantRun(t, n, straight(0, set(5, n), show("int", 5), show("bool", 5)), 0, api.Done, strings.Fields(want)...)
	}
	data := []int{'a', 'b', 0, 255, 256 + 'c', -1, 'd' - 512, '\n', least + 'e'}
	for _, c := range []struct {
		address, n int
		want       string
		there      bool
	}{
		{0, 9, "ab\x00\xffc\xffd\ne", true}, {1, 1, "b", true}, {8, 1, "e", true}, {0, 0, "", true}, {10, 0, "", true}, {-1, 0, "", true},
		{0, 10, "", false}, {9, 1, "", false}, {-1, 1, "", false}, {0, -1, "", false}, {5, -5, "", false}, {0, least, "", false},
		{0, greatest, "", false}, {greatest, greatest, "", false}, {least, 1, "", false}, {least, least, "", false},
	} {
		p := withData(straight(0, set(0, c.address), set(1, c.n), show("text", 0, 1)), data...)
		what := fmt.Sprint(c.n, " words from ", c.address)
		if c.there {
			wantRun(t, what, p, 20, api.Done, c.want)
		} else {
			wantRun(t, what, p, 20, api.BadAt)
		}
	}
}

func TestMostLines(t *testing.T) {
	printer := func(lines int, then ...api.Instr) api.Program {
		return withData(program(mainOf(0,
			block(set(0, lines), set(1, 1), jump(1)),
			block(choose(0, 2, 3)),
			block(show("int", 0), calc(0, 0, "-", 1), jump(1)),
			append(then, back()),
		)), 'a')
	}
	var want []string
	for n := api.MaxPrint; n > 0; n-- {
		want = append(want, strconv.Itoa(n))
	}
	wantRun(t, "most", printer(api.MaxPrint), 1, api.Done, want...)
	for _, in := range []api.Instr{show("int", 0), show("bool", 0), show("text", 0, 1), show("text", 0, 0), show("text", 1, 1)} {
		wantRun(t, fmt.Sprintf("most, and %+v", in), printer(api.MaxPrint, in), 1, api.BadLong, want...)
	}
	wantRun(t, "less, and a text that is not there", printer(api.MaxPrint-1, show("text", 1, 1)), 1, api.BadAt, want[1:]...)
}

func TestJumps(t *testing.T) {
	for _, c := range []struct {
		n    int
		last api.Instr
		want string
	}{
		{0, jump(1), "1"}, {0, jump(4), "4"},
		{0, choose(0, 1, 2), "2"}, {1, choose(0, 1, 2), "1"}, {-1, choose(0, 1, 2), "1"}, {least, choose(0, 3, 4), "3"}, {256, choose(0, 3, 4), "3"},
		{0, pick(0, 3), "3"}, {1, pick(0, 3), "3"}, {-1, pick(0, 3), "3"},
		{0, pick(0, 4, 2, 3), "4"}, {1, pick(0, 4, 2, 3), "2"}, {2, pick(0, 4, 2, 3), "3"}, {3, pick(0, 4, 2, 3), "3"}, {-1, pick(0, 4, 2, 3), "3"}, {least, pick(0, 4, 2, 3), "3"}, {greatest, pick(0, 4, 2, 3), "3"},
	} {
		code := mainOf(0, block(set(0, c.n), c.last))
		for i := 1; i < 5; i++ {
			code.Blocks = append(code.Blocks, block(set(1, i), show("int", 1), back()))
		}
		wantRun(t, fmt.Sprintf("%d %+v", c.n, c.last), program(code), 0, api.Done, c.want)
	}
}

func TestFails(t *testing.T) {
	for _, n := range []int{api.BadAt, api.BadZero, api.BadDeep, api.BadRoom} {
		wantRun(t, n, program(mainOf(1, block(show("int", 0), fail(n)))), 0, n, "0")
		f := api.Code{Name: "f", Blocks: [][]api.Instr{{fail(n)}}}
		wantRun(t, n, program(mainOf(1, block(invoke("f", nil), show("int", 0), back())), f), 0, n)
	}
}

// TestManySlots: a call with most slots, again and again, has zeros each time.
func TestManySlots(t *testing.T) {
	last := api.MaxSlots - 1
	f := api.Code{Name: "f", Results: 1, Vars: 2, Slots: api.MaxSlots, Blocks: [][]api.Instr{{from(0, last), keep(0, 0), set(1, 4), keep(last, 1), back(0)}}}
	p := program(mainOf(2, block(invoke("f", []int{0}), from(0, 0), calc(1, 1, "+", 0), choose(1, 1, 0)), block(show("int", 1), back())), f)
	wantSteps(t, "zeros", p, 0, 10*api.MaxFuel, api.Spent)
}
