package lower_test

import (
	"math"
	"slices"
	"strings"
	"testing"

	"postern/api"
	"postern/ir"
	"postern/lower"
	"postern/rt"
)

// P5.1
func TestWords(t *testing.T) {
	for kind, want := range map[int]int{
		api.None: 0, api.Int: 1, api.Bool: 1, api.Str: 2, api.Slice: 3, api.Map: 1,
		-1: 0, 6: 0, 7: 0, math.MinInt: 0, math.MaxInt: 0,
	} {
		if got := lower.Words(kind); got != want {
			t.Errorf("%d: %d, want %d", kind, got, want)
		}
	}
}

// head of a function.
type head struct {
	name            string
	params, results int
}

func headsOf(fs []api.Code) []head {
	var l []head
	for _, c := range fs {
		l = append(l, head{c.Name, c.Params, c.Results})
	}
	return l
}

// P5.2: the functions, in their order, with their words; those that all programs have behind them, as they are.
func TestHeads(t *testing.T) {
	p := mustLower(t, "heads", mustRead(t, `func main() { } func zz(a int, b bool) { } func a(s string, l slice, m map) map { return m }
		func b() string { return "" } func c(a slice, b slice, c slice, d slice) slice { return d } func d() bool { return true } func e() int { return 1 }`))
	want := []head{{"main", 0, 0}, {"zz", 2, 0}, {"a", 6, 1}, {"b", 0, 2}, {"c", 12, 3}, {"d", 0, 1}, {"e", 0, 1}}
	if got := headsOf(p.Funcs); !slices.Equal(got, append(want, headsOf(rt.All())...)) {
		t.Errorf("%v", got)
	}
	checkSame(t, "behind them", p.Funcs[len(want):], rt.All())
	most := []api.Func{{Name: "main"}}
	for i := 1; i < api.MaxFuncs; i++ {
		most = append(most, api.Func{Name: "f" + itoa(i)})
	}
	if p := mustLower(t, "as many as there may be", most); len(p.Funcs) != api.MaxFuncs+10 {
		t.Errorf("%d functions", len(p.Funcs))
	}
}

// wantData: the bytes of the Texts of functions.
func wantData(t *testing.T, what any, fs []api.Func, want string) {
	t.Helper()
	var got []byte
	for _, w := range mustLower(t, what, fs).Data {
		got = append(got, byte(w))
	}
	if string(got) != want {
		t.Errorf("%v: %q, want %q", what, got, want)
	}
}

// P5.2: Texts stand in Data in the order in which they are met, each once.
func TestData(t *testing.T) {
	for source, want := range map[string]string{
		`func main() { }`:                                                                                                      "",
		`func main() { print("") }`:                                                                                            "",
		`func main() { print("ab") print("ab") }`:                                                                              "ab",
		`func main() { print("ab") print("a" + "b") }`:                                                                         "abab",
		`func main() { print("ab") print("abc") }`:                                                                             "ababc",
		`func main() { print("") print("é") print("") }`:                                                                       "é",
		`func main() { print("x" + ("y" + "z") + "x") print("w" < "y") }`:                                                      "xyzw",
		`func main() { b() a() } func a() { print("a") } func b() { print("b") }`:                                              "ab",
		`func main() { a() } func a() { print("a") } func b() { print("b") }`:                                                  "ab",
		`func main() { if "a" == "b" { print("c") } else { print("d") } print("e") }`:                                          "abcde",
		`func main() { for "a" == "b" { print("c") } for i, j := range "d" { print("e") } }`:                                   "abcde",
		`func main() { switch len("a") { case 9: { print("b") } case 1: { print("c") } default: { print("d") } } }`:            "abcd",
		`func main() { for true { print("a") break print("b") } }`:                                                             "ab",
		`func main() { x := f("a", "b") } func f(a string, b string) string { return "c" return "d" print("e") return "f" }`:   "abcdef",
		`func main() { l := append(slice(len("a"), "b"[0]), len("c")) l[len("d")] = len("e") m := map() delete(m, len("f")) }`: "abcdef",
	} {
		wantData(t, source, mustRead(t, source), want)
	}
	wantData(t, "what is never done", mainOf(doing(api.Return), doing(api.Print, text("a"))), "a")
	wantData(t, "all bytes", mainOf(doing(api.Print, text(allBytes()))), allBytes())
}

func allBytes() string {
	var b []byte
	for i := range 256 {
		b = append(b, byte(i))
	}
	return string(b)
}

// P5.2: of a statement the Exprs, the Body, the Cases, the Else, whatever its kind is; what its kind does not use is never done.
func TestDataOfAllParts(t *testing.T) {
	inner := func(s string) []api.Stmt { return []api.Stmt{doing(api.Print, text(s))} }
	full := func(s api.Stmt, name string) api.Stmt {
		s.Body, s.Else = inner(name+"body"), inner(name+"else")
		s.Cases = []api.Case{{Nums: []int{1}, Body: inner(name + "one")}, {Nums: []int{2}, Body: inner(name + "two")}}
		return s
	}
	all := func(name string) string { return name + "body" + name + "one" + name + "two" + name + "else" }
	ofSwitch := mainOf(full(doing(api.Switch, of(api.Len, text("s"))), "x"))
	wantData(t, "a switch", ofSwitch, "s"+all("x"))
	ofIf := mainOf(full(doing(api.If, two(text("s"), "==", text("t"))), "x"))
	wantData(t, "an if", ofIf, "st"+all("x"))
	ofLet := mainOf(full(naming("x", api.Let, text("s")), "x"), doing(api.Print, variable("x")))
	wantData(t, "a let", ofLet, "s"+all("x"))
	r, errno := ir.Run(mustLower(t, "a let", ofLet), api.MaxHeap, api.MaxFuel)
	if errno != api.OK || r.End != api.Done || !slices.Equal(r.Lines, []string{"s"}) {
		t.Errorf("a let: %v, %v", r, errno)
	}
	odd := doing(99, api.Expr{Kind: -1, S: "no", Args: []api.Expr{with(text("q"), "q"), {Kind: api.Text, S: "r", Args: []api.Expr{text("s")}}}})
	wantData(t, "what is not looked at", mainOf(api.Stmt{Kind: api.Return, Body: []api.Stmt{odd}}), "qrs")
}

// P5.2: what does not fit is refused, as typed refuses it.
func TestRefused(t *testing.T) {
	for source, want := range map[string]api.Errno{
		`func main() { x = 1 }`:                                   api.ErrNone,
		`func main() { x := 1 + true }`:                           api.ErrType,
		`func main() { l := slice(1) delete(l, 0) }`:              api.ErrType,
		`func main() { break }`:                                   api.ErrUse,
		`func main() { } func main() { }`:                         api.ErrTwice,
		`func main(a int) { }`:                                    api.ErrCount,
		`func main() { } func f() int { }`:                        api.ErrFall,
		`func main() { f(1) } func f() { }`:                       api.ErrCount,
		`func main() { for b, i := range true { } }`:              api.ErrType,
		`func main() { switch 1 { case 1: { } case 2, 1: { } } }`: api.ErrTwice,
	} {
		wantRefused(t, source, mustRead(t, source), want)
	}
	wantRefused(t, "none", nil, api.ErrNone)
	wantRefused(t, "too many", repeated(api.MaxFuncs+1, api.Func{Name: "a"}), api.ErrSize)
	wantRefused(t, "no name", []api.Func{{Name: "_cat"}}, api.ErrForm)
	wantRefused(t, "no kind", mainOf(doing(14)), api.ErrKind)
	wantRefused(t, "a number", mainOf(doing(api.Print, num(api.MaxNumber+1))), api.ErrRange)
	deep := mainOf(doing(api.Return))
	for range 4 * api.MaxNest {
		deep[0].Body = []api.Stmt{{Kind: api.If, Exprs: []api.Expr{{Kind: api.Truth}}, Body: deep[0].Body}}
	}
	wantRefused(t, "deep", deep, api.ErrDeep)
	big := append(repeated(api.MaxInstrs, doing(api.Print, num(1))), doing(api.Break))
	wantRefused(t, "what does not fit ahead of what is too long", mainOf(big...), api.ErrUse)
}

func wantRefused(t *testing.T, what any, fs []api.Func, want api.Errno) {
	t.Helper()
	p, errno := lower.Lower(fs)
	if errno != want || len(p.Funcs) != 0 || len(p.Data) != 0 {
		t.Errorf("%v: %d functions, %d words, %v; want %v", what, len(p.Funcs), len(p.Data), errno, want)
	}
}

// wantSized: a program that may be, or one that is too long; it must be either up to a size, from another one on.
func wantSized(t *testing.T, what string, fits, over int, make func(n int) []api.Func) {
	t.Helper()
	mustLower(t, what, make(fits))
	wantRefused(t, what, make(over), api.ErrSize)
	least, most := fits, over
	for most-least > 1 { // near the bound, too
		n := (least + most) / 2
		if p, errno := lower.Lower(make(n)); errno == api.ErrSize {
			most = n
		} else if errno != api.OK || ir.Check(p) != api.OK {
			t.Fatalf("%s: %d: %v, %v", what, n, errno, ir.Check(p))
		} else {
			least = n
		}
	}
	wantRefused(t, what, make(most), api.ErrSize)
}

// P5.2: a program that does not fit is refused, not made.
func TestTooLong(t *testing.T) {
	print := doing(api.Print, num(1))
	wantSized(t, "instructions", 1000, 7000, func(n int) []api.Func { return mainOf(repeated(n, print)...) })
	wantSized(t, "blocks", 100, 3000, func(n int) []api.Func {
		return mainOf(repeated(n, api.Stmt{Kind: api.If, Exprs: []api.Expr{{Kind: api.Truth}}, Body: []api.Stmt{print}})...)
	})
	wantSized(t, "variables", 100, 3001, func(n int) []api.Func {
		var l []api.Stmt
		for i := range n {
			l = append(l, naming("v"+itoa(i), api.Let, num(1)))
		}
		return mainOf(l...)
	})
	wantSized(t, "words of a list", 100, 4000, func(n int) []api.Func {
		return mainOf(naming("l", api.Let, of(api.List, repeated(n, num(1))...)))
	})
	wantSized(t, "cases", 100, 3000, func(n int) []api.Func {
		s := doing(api.Switch, num(1))
		for i := range n {
			s.Cases = append(s.Cases, api.Case{Nums: []int{i * 100}, Body: []api.Stmt{print}})
		}
		return mainOf(s)
	})
	wantSized(t, "in a later function", 100, 7000, func(n int) []api.Func {
		return append(mainOf(print), api.Func{Name: "f", Body: repeated(n, print)})
	})
	mustLower(t, "in all", append(mainOf(repeated(2500, print)...), api.Func{Name: "f", Body: repeated(2500, print)}, api.Func{Name: "g", Body: repeated(2500, print)}))
}

// P5.2: the words of Data have a limit, the same Text counts once.
func TestTooMuchData(t *testing.T) {
	fives := func(more int) []api.Func {
		var l []api.Stmt
		for _, c := range "abcde" {
			s := strings.Repeat(string(c), api.MaxSource)
			l = append(l, doing(api.Print, text(s)), doing(api.Print, text(s)))
		}
		return mainOf(append(l, doing(api.Print, text(strings.Repeat("f", more))))...)
	}
	if p := mustLower(t, "all of the heap", fives(0)); len(p.Data) != api.MaxHeap {
		t.Errorf("%d words", len(p.Data))
	}
	wantRefused(t, "a word more", fives(1), api.ErrSize)
	wantRefused(t, "many more", fives(api.MaxSource), api.ErrSize)
	huge := api.Stmt{Kind: api.Return, Body: []api.Stmt{doing(api.Print, text(strings.Repeat("x", 10*api.MaxHeap)))}}
	wantRefused(t, "where nothing looks", mainOf(huge), api.ErrSize)
	huge.Body[0].Exprs[0].S = strings.Repeat("x", api.MaxHeap)
	if p := mustLower(t, "where nothing looks", mainOf(huge)); len(p.Data) != api.MaxHeap {
		t.Errorf("%d words", len(p.Data))
	}
}

// P5.2: nothing that stands in 300 bytes is refused.
func TestShortSources(t *testing.T) {
	const most = 300
	for _, c := range []struct{ head, part, tail string }{
		{`func main(){x:=0 l:=slice(0)`, ` x=l[l[l[l[l[0]]]]]`, `}`},
		{`func main(){l:=slice(0)`, ` l[0]=l[0]`, `}`},
		{`func main(){x:=slice(0`, `,0`, `)}`},
		{`func main(){a:=slice(0)x:=slice(0`, `,a[0]`, `)}`},
		{`func main(){`, `if true{}`, `}`},
		{`func main(){`, `for i,j:=range map(){}`, `}`},
		{`func main(){`, `for i,j:=range ""{}`, `}`},
		{`func main(){switch 0{`, ``, `}}`},
		{`func main(){x:=true`, `&&true`, `}`},
		{`func main(){x:=""`, `+""`, `}`},
		{`func main(){x:=""<=""`, `&&""<=""`, `}`},
		{`func main(){x:=0`, ` x=-x`, `}`},
		{`func main(){m:=map()`, ` m[0]=m[0]`, `}`},
		{`func main(){}`, ``, ``},
	} {
		source := c.head
		for len(c.part) > 0 && len(source)+len(c.part)+len(c.tail) <= most {
			source += c.part
		}
		mustLower(t, c.part, mustRead(t, source+c.tail))
	}
	for _, by := range []int{1, 3, 99} {
		source := "func main(){switch 0{case -50"
		for n := by - 50; len(source) < most-20; n += by {
			source += "," + itoa(n)
		}
		mustLower(t, source, mustRead(t, source+":{}}}"))
	}
}

// P5.2: what an expression needs on its way is not kept: where there is room for its instructions there is for its variables.
func TestVariablesAreFreed(t *testing.T) {
	at := of(api.At, variable("l"), num(0))
	let := naming("l", api.Let, of(api.List, num(1)))
	mustLower(t, "a long list", mainOf(let, naming("k", api.Let, of(api.List, repeated(600, at)...))))
	give := []api.Func{{Name: "main", Body: repeated(1500, doing(api.Do, call("f")))}, {Name: "f", Result: api.Slice, Body: []api.Stmt{doing(api.Return, of(api.List))}}}
	mustLower(t, "many statements", give)
	lets := []api.Stmt{naming("a", api.Let, variable("l")), naming("b", api.Let, variable("l"))}
	block := api.Stmt{Kind: api.If, Exprs: []api.Expr{{Kind: api.Truth}}, Body: lets}
	mustLower(t, "many blocks", mainOf(append([]api.Stmt{let}, repeated(600, block)...)...))
	near, far := doing(api.Switch, num(1)), doing(api.Switch, num(1))
	for i := range 600 {
		near.Cases = append(near.Cases, api.Case{Nums: []int{i}, Body: lets})
	}
	mustLower(t, "many cases", mainOf(let, near))
	far.Cases = []api.Case{{Body: lets}}
	for i := range 1400 {
		far.Cases[0].Nums = append(far.Cases[0].Nums, i*i*i)
	}
	mustLower(t, "many numbers", mainOf(let, far))
}
