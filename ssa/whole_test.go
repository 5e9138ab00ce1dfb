package ssa_test

import (
	"fmt"
	"reflect"
	"slices"
	"strings"
	"testing"

	"postern/api"
	"postern/ir"
	"postern/lower"
	"postern/read"
	"postern/ssa"
)

// with: the program, with another code of a function.
func with(p api.Program, at int, c api.Code) api.Program {
	p.Funcs = append([]api.Code(nil), p.Funcs...)
	p.Funcs[at] = c
	return p
}

// wantSame: both programs do the same.
func wantSame(t *testing.T, d *die, what any, p, q api.Program) api.Run {
	t.Helper()
	heap := len(p.Data) + d.n(20)
	a, b := ran(p, heap, 3000), ran(q, heap, 5000)
	if !agree(a, b) {
		t.Fatalf("%v: %+v and %+v: %+v and %+v", what, a, b, p, q)
	}
	return a
}

// eachMade: the program, with what is made of some of its functions, at least one.
func eachMade(d *die, p api.Program, do func(c api.Code) api.Code) api.Program {
	must := d.n(len(p.Funcs))
	for at, c := range p.Funcs {
		if at == must || d.n(4) > 0 {
			p = with(p, at, do(c))
		}
	}
	return p
}

// TestDrawn: drawn programs do the same when each of their functions is built, made less and brought back, and so they do when the code in between is stirred.
func TestDrawn(t *testing.T) {
	d := die(3)
	ends, phis, less := map[int]int{}, 0, 0
	for n := range 5000 {
		p := drawnProgram(&d)
		build := func(c api.Code) api.Code { return mustBuild(t, n, p, c) }
		opt := func(c api.Code) api.Code {
			made := mustOpt(t, n, p, c)
			less += instrs(c) - instrs(made)
			return made
		}
		back := func(c api.Code) api.Code { return mustBack(t, n, p, c) }
		stir := func(c api.Code) api.Code { return stirred(&d, p, c) }
		wantSame(t, &d, n, p, eachMade(&d, p, build))
		ends[wantSame(t, &d, n, p, eachMade(&d, p, func(c api.Code) api.Code { return back(build(c)) })).End]++
		wantSame(t, &d, n, p, eachMade(&d, p, func(c api.Code) api.Code { return back(opt(build(c))) }))
		x := p
		for at, c := range p.Funcs {
			x = with(x, at, stir(build(c)))
			phis += ops(x.Funcs[at], api.Phi)
		}
		wantSame(t, &d, n, x, eachMade(&d, x, opt))
		wantSame(t, &d, n, x, eachMade(&d, x, back))
		wantSame(t, &d, n, x, eachMade(&d, x, func(c api.Code) api.Code { return back(opt(c)) }))
	}
	for end := api.Done; end <= api.Spent; end++ {
		if ends[end] < 20 {
			t.Errorf("%v: too few end by %d", ends, end)
		}
	}
	if phis < 5000 || less < 5000 {
		t.Errorf("%d Phis were drawn, %d instructions left out: too few", phis, less)
	}
}

// sources, and what they print, a word a line.
var sources = map[string]string{
	`func main() { m := map() for i, r := range "abca" { m[r] = m[r] + 1 } for k, v := range m { print(k) print(v) } }`:                                                       "97 2 98 1 99 1",
	`func main() { l := slice(1) l = append(l, 2) l[0] = 7 for i, n := range l { print(i) print(n) } print(len(l)) }`:                                                         "0 7 1 2 2",
	`func main() { print(fib(15)) } func fib(n int) int { if n < 2 { return n } return fib(n - 1) + fib(n - 2) }`:                                                             "610",
	`func main() { a := 0 b := 1 for b < 60 { print(b) c := a a = b b = a + c } }`:                                                                                            "1 1 2 3 5 8 13 21 34 55",
	`func main() { for i, j := range 6 { if i == 1 { continue } if j == 4 { break } switch i { case 0, 3: { print("x") } case 2: { print(i) } default: { print("no") } } } }`: "x 2 x",
	`func main() { s := "" for i, j := range 3 { s = s + "ab" if s == "abab" && !(i < 1) || false { print(s) } } print(s > "ab") print(len(s)) }`:                             "abab true 6",
	`func main() { m := map() m[3] = 4 delete(m, 3) print(len(m)) print(m[3]) print(f(7, "z")) } func f(n int, s string) string { return s + s }`:                             "0 0 zz",
}

// TestSources: whole programs do the same with all functions made so.
func TestSources(t *testing.T) {
	for source, said := range sources {
		fs, _, errno := read.Read(source)
		if errno != api.OK {
			t.Fatal(source, errno)
		}
		p, errno := lower.Lower(fs)
		if errno != api.OK {
			t.Fatal(source, errno)
		}
		x, z := p, p
		for at, c := range p.Funcs {
			x = with(x, at, mustOpt(t, source, p, mustBuild(t, source, p, c)))
			z = with(z, at, mustBack(t, source, p, x.Funcs[at]))
		}
		for _, q := range []api.Program{p, x, z} {
			r := ran(q, 1000, 100000)
			if r.End != api.Done || !slices.Equal(r.Lines, strings.Fields(said)) {
				t.Errorf("%s: %+v; want %s", source, r, said)
			}
		}
		if r, errno := ir.Run(z, 1000, 100000); errno != api.OK || r.End != api.Done {
			t.Errorf("%s: %+v, %v", source, r, errno)
		}
	}
}

// TestSame: an answer hangs on what is handed in, and that stays as it is, its spare room too.
func TestSame(t *testing.T) {
	d := die(6)
	for n := range 300 {
		p := roomy(drawnProgram(&d))
		c := roomy(one(&d, p.Funcs...))
		x := roomy(stirred(&d, p, mustBuild(t, n, p, c)))
		wasP, wasC, wasX := fmt.Sprint(whole(p)), fmt.Sprint(whole(c)), fmt.Sprint(whole(x))
		answers := func() string {
			var l []any
			for _, c := range []api.Code{c, x} {
				built, e := ssa.Build(p, c)
				less, f := ssa.Opt(p, c)
				back, g := ssa.Back(p, c)
				l = append(l, built, e, less, f, back, g, ssa.Check(p, c), ssa.Ahead(c), ssa.Above(c))
			}
			return fmt.Sprint(l...)
		}
		first := answers()
		if fmt.Sprint(whole(p)) != wasP || fmt.Sprint(whole(c)) != wasC || fmt.Sprint(whole(x)) != wasX {
			t.Fatalf("case %d: what was handed in is another one", n)
		}
		if answers() != first {
			t.Fatalf("case %d: two answers", n)
		}
	}
}

// memory that is somebody's.
type memory map[any]bool

// claim the memory of a list, its spare room too.
func claim[T any](t *testing.T, mine memory, l []T) {
	t.Helper()
	l = l[:cap(l)]
	for i := range l {
		if mine[&l[i]] {
			t.Fatal("memory is shared")
		}
		mine[&l[i]] = true
	}
}

func claimCode(t *testing.T, mine memory, c api.Code) {
	t.Helper()
	claim(t, mine, c.Blocks)
	for _, b := range c.Blocks {
		claim(t, mine, b)
		for _, in := range b {
			claim(t, mine, in.Ds)
			claim(t, mine, in.As)
			claim(t, mine, in.To)
		}
	}
}

// TestNewMemory: no list of an answer shares memory, with another one, another answer, or what was handed in.
func TestNewMemory(t *testing.T) {
	d := die(7)
	for n := range 300 {
		p := roomy(drawnProgram(&d))
		c := one(&d, p.Funcs...)
		x := roomy(stirred(&d, p, mustBuild(t, n, p, c)))
		mine := memory{}
		for _, f := range p.Funcs {
			claimCode(t, mine, f)
		}
		claimCode(t, mine, x)
		for range 2 {
			claimCode(t, mine, mustBuild(t, n, p, c))
			claimCode(t, mine, mustOpt(t, n, p, x))
			claimCode(t, mine, mustBack(t, n, p, x))
			for _, lists := range [][][]int{ssa.Ahead(x), ssa.Above(x)} {
				claim(t, mine, lists)
				for _, l := range lists {
					claim(t, mine, l)
				}
			}
		}
	}
}

// roomy: the same in new memory, with spare room in each list.
func roomy[T any](x T) T {
	const spare = 2
	return remade(reflect.ValueOf(x), func(l reflect.Value) (int, int) { return l.Len(), l.Len() + spare }).Interface().(T)
}

// whole: with what is in the spare room of each list.
func whole[T any](x T) T {
	return remade(reflect.ValueOf(x), func(l reflect.Value) (int, int) { return l.Cap(), l.Cap() }).Interface().(T)
}

// copied: the same in new memory.
func copied[T any](x T) T {
	return remade(reflect.ValueOf(x), func(l reflect.Value) (int, int) { return l.Len(), l.Len() }).Interface().(T)
}

// remade: a value in new memory, its lists so long, and with so much room.
func remade(v reflect.Value, size func(reflect.Value) (int, int)) reflect.Value {
	out := reflect.New(v.Type()).Elem()
	switch v.Kind() {
	case reflect.Slice:
		long, room := size(v)
		out.Set(reflect.MakeSlice(v.Type(), long, room))
		v = v.Slice(0, long)
		for i := range long {
			out.Index(i).Set(remade(v.Index(i), size))
		}
	case reflect.Struct:
		for i := range v.NumField() {
			out.Field(i).Set(remade(v.Field(i), size))
		}
	default:
		out.Set(v)
	}
	return out
}
