package alloc_test

import (
	"fmt"
	"reflect"
	"slices"
	"strings"
	"testing"

	"postern/alloc"
	"postern/api"
	"postern/lower"
	"postern/read"
	"postern/ssa"
	"postern/vm"
)

// TestDrawn: machine code of drawn programs does what they do.
func TestDrawn(t *testing.T) {
	d := die(3)
	ends, lines := map[int]int{}, 0
	for n := range 8000 {
		p := drawnProgram(&d)
		r := wantSame(t, n, p, len(p.Data)+d.n(20), 3000)
		ends[r.End]++
		lines += len(r.Lines)
	}
	for end := api.Done; end <= api.Spent; end++ {
		if ends[end] < 20 {
			t.Errorf("%v: too few end by %d", ends, end)
		}
	}
	if lines < 8000 {
		t.Errorf("only %d lines were printed", lines)
	}
}

// TestCalm: so does that of programs in which many values live long.
func TestCalm(t *testing.T) {
	d := die(4)
	slots, lines := 0, 0
	for n := range 8000 {
		p := calm(&d)
		if n%2 == 0 {
			p = shuffled(&d, p)
		}
		lines += len(wantSame(t, n, p, 0, 500).Lines)
		slots += ops(mustAlloc(t, n, p, p.Funcs[0]), api.LoadSlot, api.StoreSlot)
	}
	if slots < 50000 || lines < 20000 {
		t.Errorf("%d loads and stores, %d lines: too few", slots, lines)
	}
}

// sources, and what they print, a word a line.
var sources = map[string]string{
	`func main() { m := map() for i, r := range "abca" { m[r] = m[r] + 1 } for k, v := range m { print(k) print(v) } }`:                                                                                                                "97 2 98 1 99 1",
	`func main() { l := slice(1) l = append(l, 2) l[0] = 7 for i, n := range l { print(i) print(n) } print(len(l)) }`:                                                                                                                  "0 7 1 2 2",
	`func main() { print(fib(15)) } func fib(n int) int { if n < 2 { return n } return fib(n - 1) + fib(n - 2) }`:                                                                                                                      "610",
	`func main() { a := 0 b := 1 for b < 60 { print(b) c := a a = b b = a + c } }`:                                                                                                                                                     "1 1 2 3 5 8 13 21 34 55",
	`func main() { for i, j := range 6 { if i == 1 { continue } if j == 4 { break } switch i { case 0, 3: { print("x") } case 2: { print(i) } default: { print("no") } } } }`:                                                          "x 2 x",
	`func main() { s := "" for i, j := range 3 { s = s + "ab" if s == "abab" && !(i < 1) || false { print(s) } } print(s > "ab") print(len(s)) }`:                                                                                      "abab true 6",
	`func main() { m := map() m[3] = 4 delete(m, 3) print(len(m)) print(m[3]) print(f(7, "z")) } func f(n int, s string) string { return s + s }`:                                                                                      "0 0 zz",
	`func main() { a := 1 b := 2 c := 3 d := 4 e := 5 f := 6 g := 7 h := 8 k := 9 n := 0 for n < 3 { a = b + c b = c + d c = d + e d = e + f e = f + g f = g + h g = h + k h = k + a k = a - n n = n + 1 } print(a+b+c+d+e+f+g+h+k) }`: "446",
}

// TestSources: machine code of whole programs does what they do, and so does that of what ssa makes of them.
func TestSources(t *testing.T) {
	for source, said := range sources {
		fs, _, errno := read.Read(source)
		if errno != api.OK {
			t.Fatal(source, errno)
		}
		p, errno := lower.Lower(fs)
		if errno != api.OK {
			t.Fatal(source, errno)
		}
		less := p
		less.Funcs = nil
		for _, c := range p.Funcs {
			for _, do := range []func(api.Program, api.Code) (api.Code, api.Errno){ssa.Build, ssa.Opt, ssa.Back} {
				if c, errno = do(p, c); errno != api.OK {
					t.Fatal(source, errno)
				}
			}
			less.Funcs = append(less.Funcs, c)
		}
		for _, q := range []api.Program{p, less} {
			if r := wantSame(t, source, q, 1000, 100000); r.End != api.Done || !slices.Equal(r.Lines, strings.Fields(said)) {
				t.Errorf("%s: %+v; want %s", source, r, said)
			}
		}
	}
}

// TestMixed: machine code of each function does the same beside that of the others, whatever that was made of.
func TestMixed(t *testing.T) {
	d := die(8)
	for n := range 1000 {
		p := calm(&d)
		q := api.Program{}
		for _, c := range p.Funcs {
			if d.n(2) == 0 {
				c.Vars += d.n(20) // of the same code with more variables, in another order
				c = turned(&d, c)
			}
			q.Funcs = append(q.Funcs, mustAlloc(t, n, p, c))
		}
		a, b := ran(t, n, p, 0, 500)
		r, errno := vm.Run(q, 0, mostSteps*500)
		if errno != api.OK || a.End != api.Spent && (r.End != b.End || !slices.Equal(r.Lines, b.Lines)) {
			t.Fatalf("%d: %+v, %v; want %+v", n, r, errno, b)
		}
	}
}

// turned: the code with other names for its variables, but for the params.
func turned(d *die, c api.Code) api.Code {
	c = copied(c)
	names := append(upTo(c.Params), d.different(c.Vars-c.Params, c.Vars-c.Params)...)
	for i := c.Params; i < c.Vars; i++ {
		names[i] += c.Params
	}
	for _, b := range c.Blocks {
		for _, in := range b {
			for _, l := range [][]int{in.Ds, in.As} {
				for i := range l {
					l[i] = names[l[i]]
				}
			}
		}
	}
	return c
}

// TestSame: an answer hangs on what is handed in, and that stays as it is, its spare room too.
func TestSame(t *testing.T) {
	d := die(6)
	for n := range 500 {
		p := roomy(drawnProgram(&d))
		c := roomy(one(&d, p.Funcs...))
		if d.n(4) == 0 {
			spoil(&d, &c)
		}
		wasP, wasC := fmt.Sprint(whole(p)), fmt.Sprint(whole(c))
		m, errno := alloc.Alloc(p, c)
		for range 5 {
			if again, e := alloc.Alloc(p, c); e != errno || !reflect.DeepEqual(m, again) {
				t.Fatalf("case %d: two answers: %+v, %+v", n, m, again)
			}
		}
		if fmt.Sprint(whole(p)) != wasP || fmt.Sprint(whole(c)) != wasC {
			t.Fatalf("case %d: what was handed in is another one", n)
		}
	}
}

// memory that is somebody's.
type memory map[any]bool

// claim the memory of a list, its spare room too.
func claim[T any](t *testing.T, mine memory, l []T) {
	t.Helper()
	l = l[:cap(l)]
	for i := range l {
		if mine[&l[i]] {
			t.Fatal("memory is shared")
		}
		mine[&l[i]] = true
	}
}

func claimCode(t *testing.T, mine memory, c api.Code) {
	t.Helper()
	claim(t, mine, c.Blocks)
	for _, b := range c.Blocks {
		claim(t, mine, b)
		for _, in := range b {
			claim(t, mine, in.Ds)
			claim(t, mine, in.As)
			claim(t, mine, in.To)
		}
	}
}

// TestNewMemory: no list of an answer shares memory, with another one, another answer, or what was handed in.
func TestNewMemory(t *testing.T) {
	d := die(7)
	for n := range 500 {
		p := roomy(drawnProgram(&d))
		mine := memory{}
		for _, c := range p.Funcs {
			claimCode(t, mine, c)
		}
		for range 2 {
			for _, c := range p.Funcs {
				claimCode(t, mine, mustAlloc(t, n, p, c))
			}
		}
	}
}

// roomy: the same in new memory, with spare room in each list.
func roomy[T any](x T) T {
	const spare = 2
	return remade(reflect.ValueOf(x), func(l reflect.Value) (int, int) { return l.Len(), l.Len() + spare }).Interface().(T)
}

// whole: with what is in the spare room of each list.
func whole[T any](x T) T {
	return remade(reflect.ValueOf(x), func(l reflect.Value) (int, int) { return l.Cap(), l.Cap() }).Interface().(T)
}

// copied: the same in new memory.
func copied[T any](x T) T {
	return remade(reflect.ValueOf(x), func(l reflect.Value) (int, int) { return l.Len(), l.Len() }).Interface().(T)
}

// remade: a value in new memory, its lists so long, and with so much room.
func remade(v reflect.Value, size func(reflect.Value) (int, int)) reflect.Value {
	out := reflect.New(v.Type()).Elem()
	switch v.Kind() {
	case reflect.Slice:
		long, room := size(v)
		out.Set(reflect.MakeSlice(v.Type(), long, room))
		v = v.Slice(0, long)
		for i := range long {
			out.Index(i).Set(remade(v.Index(i), size))
		}
	case reflect.Struct:
		for i := range v.NumField() {
			out.Field(i).Set(remade(v.Field(i), size))
		}
	default:
		out.Set(v)
	}
	return out
}
