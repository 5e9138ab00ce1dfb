package comp_test

import (
	"fmt"
	"reflect"
	"testing"

	"postern/api"
	"postern/comp"
)

// TestSame: an answer hangs on what is handed in, and that stays as it is, its spare room too.
func TestSame(t *testing.T) {
	d := die(8)
	for n := range 500 {
		p := roomy(one(&d, wild, calm)(&d))
		if d.n(4) == 0 {
			spoil(&d, &p)
		}
		was := fmt.Sprint(whole(p))
		for _, opt := range ways {
			m, errno := comp.Machine(p, opt)
			for range 3 {
				if again, e := comp.Machine(p, opt); e != errno || !reflect.DeepEqual(m, again) {
					t.Fatalf("case %d: two answers: %+v, %+v", n, m, again)
				}
			}
		}
		if fmt.Sprint(whole(p)) != was {
			t.Fatalf("case %d: what was handed in is another one", n)
		}
	}
}

// TestSameSource: so does that of a source.
func TestSameSource(t *testing.T) {
	d := die(9)
	for n := range 30 {
		s := d.source()
		for _, opt := range ways {
			m, at, errno := comp.Compile(s, opt)
			for range 3 {
				if again, place, e := comp.Compile(s, opt); e != errno || place != at || !reflect.DeepEqual(m, again) {
					t.Fatalf("case %d: two answers: %+v, %+v", n, m, again)
				}
			}
		}
	}
}

// memory that is somebody's.
type memory map[any]bool

// claim the memory of a list, its spare room too.
func claim[T any](t *testing.T, mine memory, l []T) {
	t.Helper()
	l = l[:cap(l)]
	for i := range l {
		if mine[&l[i]] {
			t.Fatal("memory is shared")
		}
		mine[&l[i]] = true
	}
}

func claimProgram(t *testing.T, mine memory, p api.Program) {
	t.Helper()
	claim(t, mine, p.Data)
	claim(t, mine, p.Funcs)
	for _, c := range p.Funcs {
		claim(t, mine, c.Blocks)
		for _, b := range c.Blocks {
			claim(t, mine, b)
			for _, in := range b {
				claim(t, mine, in.Ds)
				claim(t, mine, in.As)
				claim(t, mine, in.To)
			}
		}
	}
}

// TestNewMemory: no list of an answer shares memory, with another one, another answer, or what was handed in.
func TestNewMemory(t *testing.T) {
	d := die(10)
	for n := range 300 {
		p := roomy(one(&d, wild, calm)(&d))
		mine := memory{}
		claimProgram(t, mine, p)
		for range 2 {
			for _, opt := range ways {
				claimProgram(t, mine, mustMachine(t, n, p, opt))
			}
		}
	}
	mine := memory{}
	for _, opt := range []bool{false, true, false, true} {
		claimProgram(t, mine, mustCompile(t, exampleOfMap, opt))
	}
}

// roomy: the same in new memory, with spare room in each list.
func roomy[T any](x T) T {
	const spare = 2
	return remade(reflect.ValueOf(x), func(l reflect.Value) (int, int) { return l.Len(), l.Len() + spare }).Interface().(T)
}

// whole: with what is in the spare room of each list.
func whole[T any](x T) T {
	return remade(reflect.ValueOf(x), func(l reflect.Value) (int, int) { return l.Cap(), l.Cap() }).Interface().(T)
}

// copied: the same in new memory.
func copied[T any](x T) T {
	return remade(reflect.ValueOf(x), func(l reflect.Value) (int, int) { return l.Len(), l.Len() }).Interface().(T)
}

// remade: a value in new memory, its lists so long, and with so much room.
func remade(v reflect.Value, size func(reflect.Value) (int, int)) reflect.Value {
	out := reflect.New(v.Type()).Elem()
	switch v.Kind() {
	case reflect.Slice:
		long, room := size(v)
		out.Set(reflect.MakeSlice(v.Type(), long, room))
		v = v.Slice(0, long)
		for i := range long {
			out.Index(i).Set(remade(v.Index(i), size))
		}
	case reflect.Struct:
		for i := range v.NumField() {
			out.Field(i).Set(remade(v.Field(i), size))
		}
	default:
		out.Set(v)
	}
	return out
}
