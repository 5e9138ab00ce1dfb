package vm_test

import (
	"fmt"
	"slices"
	"strconv"
	"testing"

	"postern/api"
	"postern/vm"
)

// none of these is an operator of machine code; some are operators of other code.
var noOps = []int{least, -21, -1, 0, api.Phi, 15, 20, 23, 256 + api.LoadSlot, greatest}

// allOps of machine code.
var allOps = []int{api.Const, api.Move, api.Math, api.Load, api.Store, api.Alloc, api.Invoke, api.Show, api.Jump, api.Choose, api.Pick, api.Back, api.Fail, api.LoadSlot, api.StoreSlot}

func endsBlock(op int) bool {
	return slices.Contains([]int{api.Jump, api.Choose, api.Pick, api.Back, api.Fail}, op)
}

// holder: code of four registers, six slots and three blocks, that has an instruction at its beginning, or, if that ends a block, at the end of one.
func holder(results int, in api.Instr) api.Code {
	first := block(in)
	if !endsBlock(in.Op) {
		first = append(first, jump(1))
	}
	return api.Code{Name: "c", Results: results, Vars: 4, Slots: 6, Blocks: [][]api.Instr{first, {jump(2)}, {fail(api.BadAt)}}}
}

// takers: functions with so many params and results, by their names: f and two digits.
func takers() api.Program {
	var p api.Program
	for params := range 4 {
		for results := range 4 {
			p.Funcs = append(p.Funcs, idle("f"+strconv.Itoa(params)+strconv.Itoa(results), params, results))
		}
	}
	return p
}

func wantInstr(t *testing.T, in api.Instr, want api.Errno) {
	t.Helper()
	results := 0
	if in.Op == api.Back {
		results = len(in.As)
	}
	wantCode(t, fmt.Sprintf("%+v", in), takers(), holder(results, in), want)
}

// goodInstrs: at least one of each operator.
func goodInstrs() []api.Instr {
	return []api.Instr{
		set(0, 7), set(3, least), set(3, greatest), move(0, 3), move(2, 2), calc(3, 0, "+", 0),
		load(1, 2, 0), load(0, 0, least), store(3, greatest, 0), alloc(0, 0),
		invoke("f00", nil), invoke("f21", []int{5}, 0, 4), invoke("f03", []int{3, 0, 5}), invoke("f10", nil, 5), invoke("f11", []int{4}, 4),
		show("int", 0), show("bool", 3), show("text", 0, 3), show("text", 1, 1),
		jump(0), jump(2), choose(0, 1, 2), choose(3, 0, 0), pick(0, 0), pick(3, 2, 2, 1, 0, 1),
		back(), back(0), back(5, 5, 4), fail(api.BadAt), fail(api.BadZero), fail(api.BadDeep), fail(api.BadRoom),
		from(0, 0), from(3, 5), keep(0, 0), keep(5, 3),
	}
}

func TestGoodInstrs(t *testing.T) {
	for _, in := range goodInstrs() {
		wantInstr(t, in, api.OK)
	}
}

func TestNeedlessFields(t *testing.T) {
	for _, in := range goodInstrs() {
		if in.Op != api.Math && in.Op != api.Invoke && in.Op != api.Show {
			in.S = "no operator"
		}
		if in.Op != api.Fail && in.Op != api.LoadSlot && in.Op != api.StoreSlot {
			in.N = -77
		}
		wantInstr(t, in, api.OK)
	}
}

func TestInstrKinds(t *testing.T) {
	for _, op := range noOps {
		wantInstr(t, api.Instr{Op: op}, api.ErrKind)
		wantInstr(t, api.Instr{Op: op, Ds: []int{-1, -1}, As: []int{9}, To: []int{9}, N: -1}, api.ErrKind)
	}
}

// mayHave: may an operator have so many results, arguments and places, if all else fits?
func mayHave(op, ds, as, to int) bool {
	switch op {
	case api.Const, api.LoadSlot:
		return ds == 1 && as == 0 && to == 0
	case api.Move, api.Load, api.Alloc:
		return ds == 1 && as == 1 && to == 0
	case api.Math:
		return ds == 1 && as == 2 && to == 0
	case api.Store:
		return ds == 0 && as == 2 && to == 0
	case api.StoreSlot:
		return ds == 0 && as == 1 && to == 0
	case api.Invoke:
		return to == 0
	case api.Show:
		return ds == 0 && (as == 1 || as == 2) && to == 0
	case api.Back:
		return ds == 0 && to == 0
	case api.Jump:
		return ds == 0 && as == 0 && to == 1
	case api.Choose:
		return ds == 0 && as == 1 && to == 2
	case api.Pick:
		return ds == 0 && as == 1 && to >= 1
	}
	return ds == 0 && as == 0 && to == 0
}

// fitting instruction, with so many results, arguments and places.
func fitting(op, ds, as, to int) api.Instr {
	in := api.Instr{Op: op, Ds: []int{3, 1, 2}[:ds], As: []int{0, 1, 2}[:as], To: []int{2, 0, 1}[:to]}
	switch op {
	case api.Math:
		in.S = "<="
	case api.Show:
		in.S = "int"
		if as == 2 {
			in.S = "text"
		}
	case api.Invoke:
		in.S = "f" + strconv.Itoa(as) + strconv.Itoa(ds)
	case api.Fail, api.LoadSlot, api.StoreSlot:
		in.N = api.BadDeep
	}
	return in
}

func TestInstrCounts(t *testing.T) {
	for _, op := range allOps {
		for n := range 4 * 4 * 4 {
			ds, as, to := n%4, n/4%4, n/16
			want := api.ErrCount
			if mayHave(op, ds, as, to) {
				want = api.OK
			}
			wantInstr(t, fitting(op, ds, as, to), want)
		}
	}
}

// spoilt: an instruction with each one of its results and arguments another number.
func spoilt(in api.Instr, n int) []api.Instr {
	var out []api.Instr
	put := func(l []int, at int) []int {
		l = slices.Clone(l)
		l[at] = n
		return l
	}
	for i := range in.Ds {
		x := in
		x.Ds = put(in.Ds, i)
		out = append(out, x)
	}
	for i := range in.As {
		x := in
		x.As = put(in.As, i)
		out = append(out, x)
	}
	return out
}

// TestRegistersAndSlots: an Invoke and a Back may name each slot, all others each register, and nothing beyond these.
func TestRegistersAndSlots(t *testing.T) {
	for _, in := range goodInstrs() {
		most := 4
		if in.Op == api.Invoke || in.Op == api.Back {
			most = 6
		}
		for _, n := range []int{-1, least, most, greatest} {
			for _, x := range spoilt(in, n) {
				wantInstr(t, x, api.ErrRange)
			}
		}
		for _, x := range spoilt(in, most-1) {
			if in.Op != api.Invoke || len(in.Ds) < 2 { // results must be different
				wantInstr(t, x, api.OK)
			}
		}
	}
}

// TestMoreRegistersThanSlots: which of both counts, where there are fewer slots.
func TestMoreRegistersThanSlots(t *testing.T) {
	for _, in := range []api.Instr{invoke("f10", nil, 2), invoke("f01", []int{2}), back(2), from(0, 2), keep(2, 0)} {
		c := holder(0, in)
		if in.Op == api.Back {
			c.Results = 1
		}
		c.Slots = 3
		wantCode(t, fmt.Sprintf("%+v of 3", in), takers(), c, api.OK)
		c.Slots = 2
		wantCode(t, fmt.Sprintf("%+v of 2", in), takers(), c, api.ErrRange)
	}
	c := holder(0, move(3, 2))
	c.Slots = 0
	wantCode(t, "registers need no slots", takers(), c, api.OK)
}

func TestWrongPlaces(t *testing.T) {
	for _, n := range []int{-1, least, 3, greatest} {
		for _, in := range []api.Instr{jump(n), choose(0, n, 0), choose(0, 0, n), pick(0, n), pick(0, 0, 1, n, 2)} {
			wantInstr(t, in, api.ErrRange)
		}
	}
}

func TestSlotsByNumber(t *testing.T) {
	for _, n := range []int{least, -1, 6, greatest} {
		wantInstr(t, from(0, n), api.ErrRange)
		wantInstr(t, keep(n, 0), api.ErrRange)
	}
	for n := range 6 {
		wantInstr(t, from(3, n), api.OK)
		wantInstr(t, keep(n, 3), api.OK)
	}
	for _, in := range []api.Instr{from(4, 0), from(-1, 0), from(4, 9), keep(0, 4), keep(0, -1), keep(9, 4)} {
		wantInstr(t, in, api.ErrRange)
	}
}

func TestInstrForms(t *testing.T) {
	for _, op := range []string{"+", "-", "*", "/", "%", "==", "!=", "<", "<=", ">", ">="} {
		wantInstr(t, calc(0, 1, op, 2), api.OK)
	}
	for _, op := range []string{"", "=", "!", "&&", "||", "+ ", " +", "++", "**", "=<", "<>", "<<", "int", "\x00"} {
		wantInstr(t, calc(0, 1, op, 2), api.ErrForm)
	}
	for _, kind := range []string{"", "Int", "int ", "string", "txt", "slice", "+"} {
		wantInstr(t, show(kind, 0), api.ErrForm)
		wantInstr(t, show(kind, 0, 1), api.ErrForm)
	}
	for _, n := range []int{least, -1, 0, api.Done, api.Spent, api.BadLong, 8, greatest} {
		wantInstr(t, fail(n), api.ErrForm)
	}
}

func TestShowAndBackCounts(t *testing.T) {
	for n := range 5 {
		as := []int{0, 1, 2, 3}[:min(n, 4)]
		for _, kind := range []string{"int", "bool", "text"} {
			want := api.ErrCount
			if n == 1 && kind != "text" || n == 2 && kind == "text" {
				want = api.OK
			}
			wantInstr(t, show(kind, as...), want)
		}
		for results := range 5 {
			want := api.ErrCount
			if len(as) == results {
				want = api.OK
			}
			wantCode(t, "back", program(), holder(results, back(as...)), want)
		}
	}
}

func TestInvokes(t *testing.T) {
	wantInstr(t, invoke("nobody", nil), api.ErrNone)
	wantInstr(t, invoke("F00", nil), api.ErrNone)
	wantInstr(t, invoke("nobody", []int{1, 1}, 0), api.ErrNone)
	wantInstr(t, invoke("f11", nil, 0), api.ErrCount)
	wantInstr(t, invoke("f11", []int{0, 1}, 0), api.ErrCount)
	wantInstr(t, invoke("f11", []int{0}), api.ErrCount)
	wantInstr(t, invoke("f12", []int{0}, 0, 0), api.ErrCount)
	wantInstr(t, invoke("f01", []int{0, 0}), api.ErrCount)
	wantInstr(t, invoke("f02", []int{5, 5}), api.ErrTwice)
	wantInstr(t, invoke("f03", []int{1, 0, 1}), api.ErrTwice)
	wantInstr(t, invoke("f22", []int{1, 0}, 1, 1), api.OK) // an argument may be a result, too
	wantInstr(t, invoke("first", nil), api.OK)
	wantInstr(t, invoke("c", nil), api.OK)
}

// TestInstrOrder: of two things that are wrong with an instruction the one named first.
func TestInstrOrder(t *testing.T) {
	for _, c := range []struct {
		in   api.Instr
		want api.Errno
	}{
		{api.Instr{Op: api.LoadSlot, Ds: []int{9, 9}}, api.ErrCount},
		{api.Instr{Op: api.LoadSlot, Ds: []int{9}, As: []int{0}}, api.ErrCount},
		{api.Instr{Op: api.LoadSlot, Ds: []int{9}, To: []int{0}}, api.ErrCount},
		{api.Instr{Op: api.LoadSlot, N: 9}, api.ErrCount},
		{api.Instr{Op: api.StoreSlot, As: []int{9, 9}}, api.ErrCount},
		{api.Instr{Op: api.StoreSlot, As: []int{9}, Ds: []int{0}}, api.ErrCount},
		{api.Instr{Op: api.StoreSlot, As: []int{9}, To: []int{9}}, api.ErrCount},
		{api.Instr{Op: api.StoreSlot, N: -1}, api.ErrCount},
		{api.Instr{Op: api.Math, S: "?", Ds: []int{9}, As: []int{9}}, api.ErrCount},
		{api.Instr{Op: api.Fail, N: 99, To: []int{0}}, api.ErrCount},
		{calc(4, 0, "?", 0), api.ErrRange},
		{calc(0, 0, "?", -1), api.ErrRange},
		{show("?", 4), api.ErrRange},
		{show("int", 4, 0), api.ErrRange},
		{back(0, 6), api.ErrRange},
		{back(0, 5), api.ErrCount},
		{show("?"), api.ErrForm},
		{show("?", 0, 0, 0), api.ErrForm},
		{invoke("nobody", []int{6}), api.ErrRange},
		{invoke("nobody", []int{5}), api.ErrNone},
		{invoke("f01", []int{-1, -1}), api.ErrRange},
		{invoke("f02", []int{6, 6}), api.ErrRange},
	} {
		wantCode(t, fmt.Sprintf("%+v", c.in), takers(), holder(0, c.in), c.want)
	}
}

func TestEndsOfBlocks(t *testing.T) {
	for _, in := range goodInstrs() {
		if in.Op == api.Back || in.Op == api.Invoke {
			continue // these need more than a place
		}
		alone, behind := api.OK, api.ErrForm
		if !endsBlock(in.Op) {
			alone, behind = api.ErrForm, api.OK
		}
		code := func(blocks ...[]api.Instr) api.Code { return mainOf(6, blocks...) }
		wantCode(t, fmt.Sprintf("%+v alone", in), program(), code(block(in), block(back()), block(back())), alone)
		wantCode(t, fmt.Sprintf("%+v and more", in), program(), code(block(in, back()), block(back()), block(back())), behind)
		wantCode(t, fmt.Sprintf("%+v in a later block", in), program(), code(block(back()), block(set(0, 1), in, back()), block(back())), behind)
	}
	wantCode(t, "what is wrong with it comes first", program(), mainOf(1, block(from(0, 1))), api.ErrRange)
	wantCode(t, "what is wrong with a later one does not", program(), mainOf(1, block(back(), from(0, 1))), api.ErrForm)
}

// TestHeads: what does not hang on instructions, at its bounds and beyond.
func TestHeads(t *testing.T) {
	for _, c := range []struct {
		what                         string
		params, results, vars, slots int
		blocks                       int
		want                         api.Errno
	}{
		{"nothing", 0, 0, 0, 0, 1, api.OK},
		{"no blocks", 0, 0, 0, 0, 0, api.ErrNone},
		{"no blocks, all else wrong", 99, -99, 9, -1, 0, api.ErrNone},
		{"most blocks", 0, 0, 0, 0, api.MaxBlocks, api.OK},
		{"more blocks", 0, 0, 0, 0, api.MaxBlocks + 1, api.ErrSize},
		{"most registers", 0, 0, api.Regs, 0, 1, api.OK},
		{"more registers", 0, 0, api.Regs + 1, 0, 1, api.ErrSize},
		{"as many as variables", 0, 0, api.MaxVars, 0, 1, api.ErrSize},
		{"far more registers", 0, 0, greatest, 0, 1, api.ErrSize},
		{"registers below 0", 0, 0, -1, 0, 1, api.ErrRange},
		{"registers far below 0", 0, 0, least, 0, 1, api.ErrRange},
		{"fewer registers than params", 5, 0, 0, 5, 1, api.OK},
		{"more registers than slots", 0, 0, 8, 7, 1, api.OK},
		{"most slots", 0, 0, 0, api.MaxSlots, 1, api.OK},
		{"more slots", 0, 0, 0, api.MaxSlots + 1, 1, api.ErrSize},
		{"far more slots", 0, 0, 0, greatest, 1, api.ErrSize},
		{"slots below 0", 0, 0, 0, -1, 1, api.ErrRange},
		{"slots far below 0", 0, 0, 0, least, 1, api.ErrRange},
		{"all params are slots", 3, 0, 8, 3, 1, api.OK},
		{"one is none", 3, 0, 8, 2, 1, api.ErrRange},
		{"params and slots below 0", -1, 0, 0, -1, 1, api.ErrRange},
		{"most params", api.MaxWords, 0, 0, api.MaxWords, 1, api.OK},
		{"more params", api.MaxWords + 1, 0, 0, 99, 1, api.ErrSize},
		{"most results", 0, api.MaxWords, 0, 0, 1, api.OK},
		{"more results", 0, api.MaxWords + 1, 0, 1, 1, api.ErrSize},
		{"params below 0", -1, 0, 0, 0, 1, api.ErrRange},
		{"far fewer params", least, 0, 0, 0, 1, api.ErrRange},
		{"results below 0", 0, -1, 0, 0, 1, api.ErrRange},
		{"more registers, fewer slots", 1, 0, api.Regs + 1, 0, 1, api.ErrSize},
		{"more slots, registers below 0", 0, 0, -1, api.MaxSlots + 1, 1, api.ErrSize},
		{"more slots, params below 0", -1, 0, 0, api.MaxSlots + 1, 1, api.ErrSize},
		{"more params, fewer slots", api.MaxWords + 1, 0, 0, 0, 1, api.ErrSize},
		{"more blocks, registers below 0", 0, 0, -1, 0, api.MaxBlocks + 1, api.ErrSize},
	} {
		code := api.Code{Name: "c", Params: c.params, Results: c.results, Slots: c.slots, Vars: c.vars}
		code.Blocks = repeated(c.blocks, block(fail(api.BadAt)))
		wantCode(t, c.what, program(), code, c.want)
		if c.want != api.OK && c.blocks > 0 {
			code.Blocks[0] = nil
			wantCode(t, c.what+", and a block is empty", program(), code, c.want)
		}
	}
}

// TestNoRegisters: code without registers has none that can be named, but its slots.
func TestNoRegisters(t *testing.T) {
	c := api.Code{Name: "c", Results: 1, Slots: 1, Blocks: [][]api.Instr{{invoke("f11", []int{0}, 0), back(0)}}}
	wantCode(t, "slots alone", takers(), c, api.OK)
	for _, in := range []api.Instr{set(0, 1), from(0, 0), keep(0, 0), show("int", 0)} {
		c.Blocks = [][]api.Instr{{in, back(0)}}
		wantCode(t, fmt.Sprintf("%+v", in), takers(), c, api.ErrRange)
	}
}

// ofLengths: code whose blocks have so many instructions.
func ofLengths(ns ...int) api.Code {
	c := mainOf(1)
	for _, n := range ns {
		c.Blocks = append(c.Blocks, append(repeated(n-1, from(0, 0)), back()))
	}
	return c
}

func TestInstrsInAll(t *testing.T) {
	most := 6 * api.MaxInstrs
	wantCode(t, "most", program(), ofLengths(most), api.OK)
	wantCode(t, "one more", program(), ofLengths(most+1), api.ErrSize)
	wantCode(t, "most, in blocks", program(), ofLengths(10000, 20000, most-30001, 1), api.OK)
	wantCode(t, "one more, in blocks", program(), ofLengths(10000, 20000, most-30001, 1, 1), api.ErrSize)
	wantCode(t, "most in two functions", program(ofLengths(most)), api.Code{Name: "c", Blocks: ofLengths(1).Blocks}, api.OK)
}

func TestBlockOrder(t *testing.T) {
	empty := block()
	wrong := block(from(0, 1), back())
	long := ofLengths(6*api.MaxInstrs + 1).Blocks[0]
	good := block(back())
	wrongLong := slices.Clone(long)
	wrongLong[0] = from(0, 1)
	for _, c := range []struct {
		what   string
		blocks [][]api.Instr
		want   api.Errno
	}{
		{"empty alone", [][]api.Instr{empty}, api.ErrNone},
		{"empty last", [][]api.Instr{good, good, nil}, api.ErrNone},
		{"empty, wrong", [][]api.Instr{empty, wrong}, api.ErrNone},
		{"wrong, empty", [][]api.Instr{wrong, empty}, api.ErrRange},
		{"wrong, long", [][]api.Instr{wrong, long}, api.ErrRange},
		{"long, wrong", [][]api.Instr{long, wrong}, api.ErrSize},
		{"empty, long", [][]api.Instr{empty, long}, api.ErrNone},
		{"long and wrong", [][]api.Instr{good, wrongLong}, api.ErrSize},
		{"two wrong", [][]api.Instr{good, block(jump(9)), block(fail(0))}, api.ErrRange},
		{"the other way round", [][]api.Instr{good, block(fail(0)), block(jump(9))}, api.ErrForm},
	} {
		wantCode(t, c.what, program(), mainOf(1, c.blocks...), c.want)
	}
}

// named: so many functions, of different names.
func named(n int) []api.Code {
	var fs []api.Code
	for i := range n {
		fs = append(fs, idle("f"+strconv.Itoa(i), 0, 0))
	}
	return fs
}

func TestPrograms(t *testing.T) {
	bad := mainOf(0, block(back(), back()))
	bad.Name = "bad"
	for _, c := range []struct {
		what string
		data int
		fs   []api.Code
		want api.Errno
	}{
		{"no functions, much data", api.MaxHeap + 1, []api.Code{}, api.ErrNone},
		{"one function", 0, named(1), api.OK},
		{"most data", api.MaxHeap, named(1), api.OK},
		{"more data", api.MaxHeap + 1, named(1), api.ErrSize},
		{"more data, two of one name", api.MaxHeap + 1, append(named(2), named(1)...), api.ErrSize},
		{"most functions", 0, named(2 * api.MaxFuncs), api.OK},
		{"more functions", 0, named(2*api.MaxFuncs + 1), api.ErrSize},
		{"more functions, all of one name", 0, repeated(2*api.MaxFuncs+1, idle("a", 0, 0)), api.ErrSize},
		{"two of one name", 0, append(named(5), named(1)...), api.ErrTwice},
		{"two of one name, params", 0, []api.Code{idle("a", 1, 0), idle("a", 0, 0)}, api.ErrTwice},
		{"two of one name, wrong code", 0, []api.Code{bad, bad}, api.ErrTwice},
		{"a param", 0, []api.Code{idle("a", 1, 0)}, api.ErrCount},
		{"a result", 0, []api.Code{idle("a", 0, 1)}, api.ErrCount},
		{"a param of the second one", 0, []api.Code{idle("a", 0, 0), idle("b", 1, 2)}, api.OK},
		{"0 together", 0, []api.Code{{Name: "a", Params: -1, Results: 1, Blocks: [][]api.Instr{{fail(2)}}}}, api.ErrRange},
		{"a param, wrong code ahead", 0, []api.Code{{Name: "a", Params: 1}, bad}, api.ErrCount},
		{"wrong code behind", 0, append(named(3), bad), api.ErrForm},
		{"the first wrong one", 0, append(named(3), api.Code{}, bad), api.ErrNone},
		{"the other way round", 0, append(named(3), bad, api.Code{}), api.ErrForm},
	} {
		wantCheck(t, c.what, api.Program{Funcs: c.fs, Data: make([]int, c.data)}, c.want)
	}
	if got := vm.Check(api.Program{}); got != api.ErrNone {
		t.Errorf("nothing: %v", got)
	}
}
