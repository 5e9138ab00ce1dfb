package lower_test

import (
	"reflect"
	"slices"
	"testing"

	"postern/api"
	"postern/ir"
	"postern/typed"
)

// begins: what the one prints is how what the other one prints begins.
func begins(a, b api.Run) bool {
	return len(a.Lines) <= len(b.Lines) && slices.Equal(a.Lines, b.Lines[:len(a.Lines)])
}

// agree: both runs print the same, and end so, unless one is Spent.
func agree(a, b api.Run) bool {
	switch {
	case a.End == api.Spent && begins(a, b), b.End == api.Spent && begins(b, a):
		return true
	}
	return a.End == b.End && slices.Equal(a.Lines, b.Lines)
}

// TestMeaning: drawn functions do as code what they mean, on heaps with and without room.
func TestMeaning(t *testing.T) {
	d := die(5)
	ends := map[int]int{}
	for n := range 4000 {
		fs := drawnFuncs(&d)
		if at, errno := typed.Check(fs); errno != api.OK {
			t.Fatalf("case %d: its function %d does not fit: %v", n, at, errno)
		}
		p := mustLower(t, n, fs)
		heap := min(api.MaxHeap, len(p.Data)+one(&d, d.n(100), d.n(400), api.MaxHeap))
		want := mean(fs, len(p.Data), heap, 20000)
		got, errno := ir.Run(p, heap, 200000)
		if errno != api.OK || !agree(got, want) {
			t.Fatalf("case %d, of a heap of %d words: %+v, %v; want %+v", n, heap, got, errno, want)
		}
		ends[want.End]++
	}
	for end := api.Done; end <= api.Spent; end++ {
		if ends[end] < 10 {
			t.Errorf("%v: too few end by %d", ends, end)
		}
	}
}

// TestSame: an answer hangs on what is handed in, and that stays as it is, its spare room too.
func TestSame(t *testing.T) {
	d := die(6)
	for n := range 100 {
		fs := roomy(drawnFuncs(&d))
		was := roomy(fs)
		first := mustLower(t, n, fs)
		if !reflect.DeepEqual(whole(fs), whole(was)) {
			t.Fatalf("case %d: what was handed in is another one", n)
		}
		if second := mustLower(t, n, was); !reflect.DeepEqual(first, second) {
			t.Fatalf("case %d: two answers", n)
		}
	}
}

// roomy: the same in new memory, with spare room in each list.
func roomy[T any](x T) T {
	const spare = 2
	return remade(reflect.ValueOf(x), func(l reflect.Value) (int, int) { return l.Len(), l.Len() + spare }).Interface().(T)
}

// copied: the same in new memory.
func copied[T any](x T) T {
	return remade(reflect.ValueOf(x), func(l reflect.Value) (int, int) { return l.Len(), l.Len() }).Interface().(T)
}

// whole: with what is in the spare room of each list.
func whole[T any](x T) T {
	return remade(reflect.ValueOf(x), func(l reflect.Value) (int, int) { return l.Cap(), l.Cap() }).Interface().(T)
}

// remade: a value in new memory, its lists so long, and with so much room.
func remade(v reflect.Value, size func(reflect.Value) (int, int)) reflect.Value {
	out := reflect.New(v.Type()).Elem()
	switch v.Kind() {
	case reflect.Slice:
		long, room := size(v)
		out.Set(reflect.MakeSlice(v.Type(), long, room))
		v = v.Slice(0, long)
		for i := range long {
			out.Index(i).Set(remade(v.Index(i), size))
		}
	case reflect.Struct:
		for i := range v.NumField() {
			out.Field(i).Set(remade(v.Field(i), size))
		}
	default:
		out.Set(v)
	}
	return out
}

// claim the memory of a list, its spare room too.
func claim[T any](t *testing.T, mine map[any]bool, l []T) {
	t.Helper()
	l = l[:cap(l)]
	for i := range l {
		if mine[&l[i]] {
			t.Fatal("memory is shared")
		}
		mine[&l[i]] = true
	}
}

func claimCases(t *testing.T, mine map[any]bool, l []api.Stmt) {
	for _, s := range l {
		claimCases(t, mine, s.Body)
		claimCases(t, mine, s.Else)
		for _, c := range s.Cases {
			claim(t, mine, c.Nums)
			claimCases(t, mine, c.Body)
		}
	}
}

// TestNewMemory: no list of an answer shares memory, with another one, another answer, or what was handed in.
func TestNewMemory(t *testing.T) {
	d := die(7)
	for n := range 60 {
		fs := drawnFuncs(&d)
		mine := map[any]bool{}
		for _, f := range fs {
			claimCases(t, mine, f.Body)
		}
		for range 2 {
			p := mustLower(t, n, fs)
			claim(t, mine, p.Data)
			claim(t, mine, p.Funcs)
			for _, c := range p.Funcs {
				claim(t, mine, c.Blocks)
				for _, b := range c.Blocks {
					claim(t, mine, b)
					for _, in := range b {
						claim(t, mine, in.Ds)
						claim(t, mine, in.As)
						claim(t, mine, in.To)
					}
				}
			}
		}
	}
}

// parts of functions: pointers to all statements and expressions.
type parts struct {
	stmts []*api.Stmt
	exprs []*api.Expr
}

func (p *parts) block(l []api.Stmt) {
	for i := range l {
		p.stmts = append(p.stmts, &l[i])
		p.list(l[i].Exprs)
		p.block(l[i].Body)
		p.block(l[i].Else)
		for _, c := range l[i].Cases {
			p.block(c.Body)
		}
	}
}

func (p *parts) list(l []api.Expr) {
	for i := range l {
		p.exprs = append(p.exprs, &l[i])
		p.list(l[i].Args)
	}
}

// spoil something in functions; they may still fit.
func spoil(d *die, fs []api.Func) {
	var p parts
	for _, f := range fs {
		p.block(f.Body)
	}
	s, e := one(d, p.stmts...), one(d, p.exprs...)
	name := one(d, "v1", "v2", "v3", "v4", "v5", "x", "f1", "", "&&", "+", "<")
	switch d.n(9) {
	case 0:
		s.Kind = d.n(15)
	case 1:
		e.Kind = d.n(14)
	case 2:
		s.S = name
	case 3:
		e.S = name
	case 4:
		e.N = one(d, -1, 2, 1<<40, 1<<41, -1<<63)
	case 5:
		*e = copied(*one(d, p.exprs...))
	case 6:
		*s = copied(*one(d, p.stmts...))
	case 7:
		e.Args = append(e.Args, num(1))
	case 8:
		s.Body, s.Else = s.Else, s.Body
	}
}

// TestSpoilt: whatever is handed in, it is refused as typed refuses it, or does what it means.
func TestSpoilt(t *testing.T) {
	d := die(8)
	seen := map[api.Errno]int{}
	for n := range 2500 {
		fs := copied(drawnFuncs(&d))
		for range 1 + d.n(2) {
			spoil(&d, fs)
		}
		_, want := typed.Check(fs)
		seen[want]++
		if want != api.OK {
			wantRefused(t, n, fs, want)
			continue
		}
		p := mustLower(t, n, fs)
		got, errno := ir.Run(p, api.MaxHeap, 50000)
		if means := mean(fs, len(p.Data), api.MaxHeap, 5000); errno != api.OK || !agree(got, means) {
			t.Fatalf("case %d: %+v, %v; want %+v", n, got, errno, means)
		}
	}
	if seen[api.OK] < 300 || len(seen) < 8 {
		t.Errorf("too little was drawn: %v", seen)
	}
}

// TestDeepParts: what is not looked at may be nested in itself, as deep as anything may be.
func TestDeepParts(t *testing.T) {
	s := doing(api.Return)
	e := text("x")
	for range 1 << 15 {
		e = of(99, e)
		s = api.Stmt{Kind: api.Return, Else: []api.Stmt{s}}
	}
	s.Body = []api.Stmt{doing(api.Print, e)}
	wantData(t, "deep", mainOf(s), "x")
}
