package ir_test

import (
	"fmt"
	"slices"
	"strconv"
	"testing"

	"postern/api"
	"postern/ir"
)

// none of these is an operator of code; some are operators of other code.
var noOps = []int{least, -13, -1, 0, api.Phi, 15, api.LoadSlot, api.StoreSlot, 265, greatest}

// holder: code of four variables and three blocks, that has an instruction at its beginning, or, if that ends a block, at the end of one.
func holder(results int, in api.Instr) api.Code {
	first := block(in)
	if !slices.Contains([]int{api.Jump, api.Choose, api.Pick, api.Back, api.Fail}, in.Op) {
		first = append(first, jump(1))
	}
	return api.Code{Name: "c", Results: results, Vars: 4, Blocks: [][]api.Instr{first, {jump(2)}, {fail(api.BadAt)}}}
}

// takers: functions with so many params and results, by their names: f and two digits.
func takers() api.Program {
	var p api.Program
	for params := range 4 {
		for results := range 4 {
			p.Funcs = append(p.Funcs, idle("f"+strconv.Itoa(params)+strconv.Itoa(results), params, results))
		}
	}
	return p
}

func wantInstr(t *testing.T, in api.Instr, want api.Errno) {
	t.Helper()
	results := 0
	if in.Op == api.Back {
		results = len(in.As)
	}
	wantCode(t, fmt.Sprintf("%+v", in), takers(), holder(results, in), want)
}

// goodInstrs: at least one of each operator.
func goodInstrs() []api.Instr {
	return []api.Instr{
		set(0, 7), set(3, least), set(3, greatest), move(0, 3), move(2, 2), calc(3, 0, "+", 0),
		load(1, 2, 0), load(0, 0, least), store(3, greatest, 0), alloc(0, 0),
		invoke("f00", nil), invoke("f21", []int{3}, 0, 0), invoke("f03", []int{3, 0, 1}), invoke("f10", nil, 3),
		show("int", 0), show("bool", 3), show("text", 0, 3), show("text", 1, 1),
		jump(0), jump(2), choose(0, 1, 2), choose(3, 0, 0), pick(0, 0), pick(3, 2, 2, 1, 0, 1),
		back(), back(0), back(3, 3, 0), fail(api.BadAt), fail(api.BadZero), fail(api.BadDeep), fail(api.BadRoom),
	}
}

func TestGoodInstrs(t *testing.T) {
	for _, in := range goodInstrs() {
		wantInstr(t, in, api.OK)
	}
}

func TestNeedlessFields(t *testing.T) {
	for _, in := range goodInstrs() {
		if in.Op != api.Math && in.Op != api.Invoke && in.Op != api.Show {
			in.S = "no operator"
		}
		if in.Op != api.Fail {
			in.N = -77
		}
		wantInstr(t, in, api.OK)
	}
}

func TestEnds(t *testing.T) {
	for _, op := range append(noOps, api.Const, api.Move, api.Math, api.Load, api.Store, api.Alloc, api.Invoke, api.Show) {
		if ir.Ends(op) {
			t.Errorf("%d ends a block", op)
		}
	}
	for _, op := range []int{api.Jump, api.Choose, api.Pick, api.Back, api.Fail} {
		if !ir.Ends(op) {
			t.Errorf("%d does not end a block", op)
		}
	}
}

func TestInstrKinds(t *testing.T) {
	for _, op := range noOps {
		wantInstr(t, api.Instr{Op: op}, api.ErrKind)
		wantInstr(t, api.Instr{Op: op, Ds: []int{-1, -1}, As: []int{9}, To: []int{9}}, api.ErrKind)
	}
}

// mayHave: may an operator have so many results, arguments and places, if all else fits?
func mayHave(op, ds, as, to int) bool {
	switch op {
	case api.Const:
		return ds == 1 && as == 0 && to == 0
	case api.Move, api.Load, api.Alloc:
		return ds == 1 && as == 1 && to == 0
	case api.Math:
		return ds == 1 && as == 2 && to == 0
	case api.Store:
		return ds == 0 && as == 2 && to == 0
	case api.Invoke:
		return to == 0
	case api.Show:
		return ds == 0 && (as == 1 || as == 2) && to == 0
	case api.Back:
		return ds == 0 && to == 0
	case api.Jump:
		return ds == 0 && as == 0 && to == 1
	case api.Choose:
		return ds == 0 && as == 1 && to == 2
	case api.Pick:
		return ds == 0 && as == 1 && to >= 1
	}
	return ds == 0 && as == 0 && to == 0
}

// fitting instruction, with so many results, arguments and places.
func fitting(op, ds, as, to int) api.Instr {
	in := api.Instr{Op: op, Ds: []int{3, 1, 2}[:ds], As: []int{0, 1, 2}[:as], To: []int{2, 0, 1}[:to]}
	switch op {
	case api.Math:
		in.S = "<="
	case api.Show:
		in.S = "int"
		if as == 2 {
			in.S = "text"
		}
	case api.Invoke:
		in.S = "f" + strconv.Itoa(as) + strconv.Itoa(ds)
	case api.Fail:
		in.N = api.BadDeep
	}
	return in
}

func TestInstrCounts(t *testing.T) {
	for op := api.Const; op <= api.Fail; op++ {
		for n := range 4 * 4 * 4 {
			ds, as, to := n%4, n/4%4, n/16
			want := api.ErrCount
			if mayHave(op, ds, as, to) {
				want = api.OK
			}
			wantInstr(t, fitting(op, ds, as, to), want)
		}
	}
}

// spoilt: an instruction with each one of its results, arguments and places another number.
func spoilt(in api.Instr, n int) []api.Instr {
	var out []api.Instr
	put := func(l []int, at int) []int {
		l = slices.Clone(l)
		l[at] = n
		return l
	}
	for i := range in.Ds {
		x := in
		x.Ds = put(in.Ds, i)
		out = append(out, x)
	}
	for i := range in.As {
		x := in
		x.As = put(in.As, i)
		out = append(out, x)
	}
	for i := range in.To {
		x := in
		x.To = put(in.To, i)
		out = append(out, x)
	}
	return out
}

func TestInstrBounds(t *testing.T) {
	for _, in := range goodInstrs() {
		for _, n := range []int{-1, least, 4, greatest} {
			for _, x := range spoilt(in, n) {
				wantInstr(t, x, api.ErrRange)
			}
		}
	}
	for _, in := range []api.Instr{jump(3), choose(0, 3, 0), choose(0, 0, 3), pick(0, 3), pick(0, 0, 1, 3, 2)} {
		wantInstr(t, in, api.ErrRange)
	}
}

// TestNoVars: code without variables has none that can be named.
func TestNoVars(t *testing.T) {
	wantCode(t, "nothing is named", program(), mainOf(0, block(back())), api.OK)
	wantCode(t, "a variable is set", program(), mainOf(0, block(set(0, 1), back())), api.ErrRange)
}

func TestInstrForms(t *testing.T) {
	for _, op := range []string{"+", "-", "*", "/", "%", "==", "!=", "<", "<=", ">", ">="} {
		wantInstr(t, calc(0, 1, op, 2), api.OK)
	}
	for _, op := range []string{"", "=", "!", "&&", "||", "+ ", " +", "++", "**", "=<", "=>", "<>", "<<", "int", "\x00"} {
		wantInstr(t, calc(0, 1, op, 2), api.ErrForm)
	}
	for _, kind := range []string{"", "Int", "int ", "string", "txt", "texts", "slice", "+"} {
		wantInstr(t, show(kind, 0), api.ErrForm)
		wantInstr(t, show(kind, 0, 1), api.ErrForm)
	}
	for _, n := range []int{least, -1, 0, api.Done, api.Spent, api.BadLong, 8, greatest} {
		wantInstr(t, fail(n), api.ErrForm)
	}
}

func TestShowAndBackCounts(t *testing.T) {
	for n := range 5 {
		as := []int{0, 1, 2, 3}[:min(n, 4)]
		for _, kind := range []string{"int", "bool", "text"} {
			want := api.ErrCount
			if n == 1 && kind != "text" || n == 2 && kind == "text" {
				want = api.OK
			}
			wantInstr(t, show(kind, as...), want)
		}
		for results := range 5 {
			want := api.ErrCount
			if len(as) == results {
				want = api.OK
			}
			wantCode(t, "back", program(), holder(results, back(as...)), want)
		}
	}
}

func TestInvokes(t *testing.T) {
	wantInstr(t, invoke("nobody", nil), api.ErrNone)
	wantInstr(t, invoke("", nil), api.ErrNone)
	wantInstr(t, invoke("F00", nil), api.ErrNone)
	wantInstr(t, invoke("nobody", []int{1, 1}, 0), api.ErrNone)
	wantInstr(t, invoke("f11", nil, 0), api.ErrCount)
	wantInstr(t, invoke("f11", []int{0, 1}, 0), api.ErrCount)
	wantInstr(t, invoke("f11", []int{0}), api.ErrCount)
	wantInstr(t, invoke("f11", []int{0}, 0, 0), api.ErrCount)
	wantInstr(t, invoke("f12", []int{0}, 0, 0), api.ErrCount) // two of one, one of the other
	wantInstr(t, invoke("f01", []int{0, 0}), api.ErrCount)    // not ErrTwice
	wantInstr(t, invoke("f02", []int{3, 3}), api.ErrTwice)
	wantInstr(t, invoke("f03", []int{1, 0, 1}), api.ErrTwice)
	wantInstr(t, invoke("f22", []int{1, 0}, 1, 1), api.OK) // an argument may be a result, too
}

// TestInvokeOfItself: functions are those of the program, whether the code is one of them or not.
func TestInvokeOfItself(t *testing.T) {
	c := mainOf(1, block(invoke("main", nil), back()))
	wantCode(t, "it is in no program", program(), c, api.ErrNone)
	wantCode(t, "it is in the program", program(c), c, api.OK)
	wantCode(t, "another one has its name", program(idle("main", 1, 0)), c, api.ErrCount)
}

// TestSameNames: CheckCode does not ask whether the functions of a program have different names; the first one counts.
func TestSameNames(t *testing.T) {
	p := program(idle("a", 0, 1), idle("b", 0, 0), idle("a", 1, 0))
	wantCode(t, "the first one", p, mainOf(1, block(invoke("a", []int{0}), back())), api.OK)
	wantCode(t, "the second one", p, mainOf(1, block(invoke("a", nil, 0), back())), api.ErrCount)
}

// TestInstrOrder: of two things that are wrong with an instruction the one named first.
func TestInstrOrder(t *testing.T) {
	for _, c := range []struct {
		in   api.Instr
		want api.Errno
	}{
		{api.Instr{Op: api.Math, S: "?", Ds: []int{9}, As: []int{9}}, api.ErrCount},
		{api.Instr{Op: api.Fail, N: 99, To: []int{0}}, api.ErrCount},
		{calc(9, 0, "?", 0), api.ErrRange},
		{calc(0, 0, "?", -1), api.ErrRange},
		{show("?", 4), api.ErrRange},
		{show("int", 4, 0), api.ErrRange},
		{back(0, 7), api.ErrRange},
		{show("?"), api.ErrForm},
		{show("?", 0, 0, 0), api.ErrForm},
		{invoke("nobody", []int{4}), api.ErrRange},
		{invoke("f01", []int{-1, -1}), api.ErrRange},
		{invoke("f02", []int{4, 4}), api.ErrRange},
	} {
		wantCode(t, fmt.Sprintf("%+v", c.in), takers(), holder(0, c.in), c.want)
	}
}

func TestEndsOfBlocks(t *testing.T) {
	for _, in := range goodInstrs() {
		if in.Op == api.Back || in.Op == api.Invoke {
			continue // these need more than a place
		}
		alone, behind := api.OK, api.ErrForm
		if !ir.Ends(in.Op) {
			alone, behind = api.ErrForm, api.OK
		}
		wantCode(t, fmt.Sprintf("%+v alone", in), program(), mainOf(4, block(in), block(back()), block(back())), alone)
		wantCode(t, fmt.Sprintf("%+v and more", in), program(), mainOf(4, block(in, back()), block(back()), block(back())), behind)
		wantCode(t, fmt.Sprintf("%+v in a later block", in), program(), mainOf(4, block(back()), block(set(0, 1), in, back()), block(back())), behind)
	}
	wantCode(t, "what is wrong with it comes first", program(), mainOf(1, block(set(1, 0))), api.ErrRange)
	wantCode(t, "what is wrong with a later one does not", program(), mainOf(1, block(back(), set(1, 0))), api.ErrForm)
	wantCode(t, "a wrong end", program(), mainOf(1, block(back(0), back())), api.ErrCount)
}

// TestHeads: what does not hang on instructions, at its bounds and beyond.
func TestHeads(t *testing.T) {
	for _, c := range []struct {
		what                   string
		params, results, slots int
		vars                   int
		blocks                 int
		want                   api.Errno
	}{
		{"nothing", 0, 0, 0, 0, 1, api.OK},
		{"no blocks", 0, 0, 0, 0, 0, api.ErrNone},
		{"no blocks, all else wrong", 99, -99, 1, 9999, 0, api.ErrNone},
		{"most blocks", 0, 0, 0, 0, api.MaxBlocks, api.OK},
		{"more blocks", 0, 0, 0, 0, api.MaxBlocks + 1, api.ErrSize},
		{"most vars", 0, 0, 0, api.MaxVars, 1, api.OK},
		{"more vars", 0, 0, 0, api.MaxVars + 1, 1, api.ErrSize},
		{"far more vars", 0, 0, 0, greatest, 1, api.ErrSize},
		{"most params", api.MaxWords, 0, 0, api.MaxWords, 1, api.OK},
		{"more params", api.MaxWords + 1, 0, 0, 99, 1, api.ErrSize},
		{"most results", 0, api.MaxWords, 0, 1, 1, api.OK},
		{"more results", 0, api.MaxWords + 1, 0, 1, 1, api.ErrSize},
		{"most of both", api.MaxWords, api.MaxWords, 0, api.MaxWords, 1, api.OK},
		{"params below 0", -1, 0, 0, 0, 1, api.ErrRange},
		{"far fewer params", least, 0, 0, 0, 1, api.ErrRange},
		{"results below 0", 0, -1, 0, 0, 1, api.ErrRange},
		{"vars below 0", 0, 0, 0, -1, 1, api.ErrRange},
		{"params and vars below 0", -1, 0, 0, -1, 1, api.ErrRange},
		{"all params are vars", 3, 0, 0, 3, 1, api.OK},
		{"one is none", 3, 0, 0, 2, 1, api.ErrRange},
		{"a slot", 0, 0, 1, 0, 1, api.ErrRange},
		{"slots below 0", 0, 0, -1, 0, 1, api.ErrRange},
		{"more vars, params below 0", -1, 0, 0, api.MaxVars + 1, 1, api.ErrSize},
		{"more results, a slot", 0, api.MaxWords + 1, 1, 1, 1, api.ErrSize},
		{"more params, fewer vars", api.MaxWords + 1, 0, 0, 0, 1, api.ErrSize},
		{"more blocks, fewer vars", 1, 0, 0, 0, api.MaxBlocks + 1, api.ErrSize},
	} {
		code := api.Code{Params: c.params, Results: c.results, Slots: c.slots, Vars: c.vars}
		code.Blocks = repeated(c.blocks, block(fail(api.BadAt)))
		wantCode(t, c.what, program(), code, c.want)
		if c.want != api.OK && c.blocks > 0 {
			code.Blocks[0] = nil
			wantCode(t, c.what+", and a block is empty", program(), code, c.want)
		}
	}
}

// TestManyResults: two results that are one variable are found among as many as a function can't have.
func TestManyResults(t *testing.T) {
	ds := make([]int, 2000)
	for i := range ds {
		ds[i] = i
	}
	f := api.Code{Name: "f", Results: len(ds)}
	wantCode(t, "different ones", program(f), mainOf(2000, block(invoke("f", ds), back())), api.OK)
	ds[1999] = 0
	wantCode(t, "two are one", program(f), mainOf(2000, block(invoke("f", ds), back())), api.ErrTwice)
}

// ofLengths: code whose blocks have so many instructions.
func ofLengths(ns ...int) api.Code {
	c := mainOf(1)
	for _, n := range ns {
		c.Blocks = append(c.Blocks, append(repeated(n-1, set(0, 1)), back()))
	}
	return c
}

func TestInstrsInAll(t *testing.T) {
	wantCode(t, "most", program(), ofLengths(api.MaxInstrs), api.OK)
	wantCode(t, "one more", program(), ofLengths(api.MaxInstrs+1), api.ErrSize)
	wantCode(t, "most, in blocks", program(), ofLengths(1000, 2000, 2999, 1), api.OK)
	wantCode(t, "one more, in blocks", program(), ofLengths(1000, 2000, 2999, 1, 1), api.ErrSize)
}

func TestBlockOrder(t *testing.T) {
	empty := block()
	wrong := block(set(1, 0), back())
	long := ofLengths(api.MaxInstrs + 1).Blocks[0]
	good := block(back())
	wrongLong := slices.Clone(long)
	wrongLong[0] = set(1, 0)
	for _, c := range []struct {
		what   string
		blocks [][]api.Instr
		want   api.Errno
	}{
		{"empty alone", [][]api.Instr{empty}, api.ErrNone},
		{"nil alone", [][]api.Instr{nil}, api.ErrNone},
		{"empty last", [][]api.Instr{good, good, empty}, api.ErrNone},
		{"empty, wrong", [][]api.Instr{empty, wrong}, api.ErrNone},
		{"wrong, empty", [][]api.Instr{wrong, empty}, api.ErrRange},
		{"wrong, long", [][]api.Instr{wrong, long}, api.ErrRange},
		{"long, wrong", [][]api.Instr{long, wrong}, api.ErrSize},
		{"long, empty", [][]api.Instr{long, empty}, api.ErrSize},
		{"empty, long", [][]api.Instr{empty, long}, api.ErrNone},
		{"long and wrong", [][]api.Instr{good, wrongLong}, api.ErrSize},
		{"two wrong", [][]api.Instr{good, block(jump(9)), block(fail(0))}, api.ErrRange},
		{"the other way round", [][]api.Instr{good, block(fail(0)), block(jump(9))}, api.ErrForm},
	} {
		wantCode(t, c.what, program(), mainOf(1, c.blocks...), c.want)
	}
}

// named: so many functions, of different names.
func named(n int) []api.Code {
	var fs []api.Code
	for i := range n {
		fs = append(fs, idle("f"+strconv.Itoa(i), 0, 0))
	}
	return fs
}

func TestPrograms(t *testing.T) {
	bad := mainOf(0, block(back(), back()))
	bad.Name = "bad"
	for _, c := range []struct {
		what string
		data int
		fs   []api.Code
		want api.Errno
	}{
		{"nothing", 0, nil, api.ErrNone},
		{"no functions, much data", api.MaxHeap + 1, []api.Code{}, api.ErrNone},
		{"one function", 0, named(1), api.OK},
		{"most data", api.MaxHeap, named(1), api.OK},
		{"more data", api.MaxHeap + 1, named(1), api.ErrSize},
		{"more data, two of one name", api.MaxHeap + 1, append(named(2), named(1)...), api.ErrSize},
		{"most functions", 0, named(2 * api.MaxFuncs), api.OK},
		{"more functions", 0, named(2*api.MaxFuncs + 1), api.ErrSize},
		{"more functions, all of one name", 0, repeated(2*api.MaxFuncs+1, idle("a", 0, 0)), api.ErrSize},
		{"two of one name", 0, append(named(5), named(1)...), api.ErrTwice},
		{"two without names", 0, []api.Code{idle("", 0, 0), idle("", 0, 0)}, api.ErrTwice},
		{"one without a name", 0, []api.Code{idle("", 0, 0), idle(" ", 0, 0)}, api.OK},
		{"two of one name, params", 0, []api.Code{idle("a", 1, 0), idle("a", 0, 0)}, api.ErrTwice},
		{"two of one name, wrong code", 0, []api.Code{bad, bad}, api.ErrTwice},
		{"a param", 0, []api.Code{idle("a", 1, 0)}, api.ErrCount},
		{"a result", 0, []api.Code{idle("a", 0, 1)}, api.ErrCount},
		{"both", 0, []api.Code{idle("a", 1, 1)}, api.ErrCount},
		{"a param of the second one", 0, []api.Code{idle("a", 0, 0), idle("b", 1, 2)}, api.OK},
		{"fewer params than none", 0, []api.Code{{Name: "a", Params: -1}}, api.ErrCount},
		{"0 together", 0, []api.Code{{Name: "a", Params: -1, Results: 1, Blocks: [][]api.Instr{{fail(2)}}}}, api.ErrRange},
		{"a param, wrong code ahead", 0, []api.Code{{Name: "a", Params: 1}, bad}, api.ErrCount},
		{"wrong code", 0, []api.Code{bad}, api.ErrForm},
		{"wrong code behind", 0, append(named(3), bad), api.ErrForm},
		{"the first wrong one", 0, append(named(3), api.Code{}, bad), api.ErrNone},
		{"the other way round", 0, append(named(3), bad, api.Code{}), api.ErrForm},
	} {
		wantCheck(t, c.what, api.Program{Funcs: c.fs, Data: make([]int, c.data)}, c.want)
	}
}

// TestInvokesInPrograms: functions may call those ahead of them and behind them, and themselves.
func TestInvokesInPrograms(t *testing.T) {
	a := mainOf(1, block(invoke("b", []int{0}, 0), invoke("main", nil), back()))
	b := api.Code{Name: "b", Params: 1, Results: 1, Vars: 1, Blocks: [][]api.Instr{{invoke("b", []int{0}, 0), invoke("main", nil), back(0)}}}
	wantCheck(t, "all", program(a, b), api.OK)
	wantCheck(t, "one is missing", program(a), api.ErrNone)
	b.Results = 0
	wantCheck(t, "a result too many", program(a, b), api.ErrCount)
}
