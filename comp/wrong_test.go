package comp_test

import (
	"reflect"
	"strings"
	"testing"

	"postern/api"
	"postern/comp"
	"postern/vm"
)

// wantWrong: a source that is refused.
func wantWrong(t *testing.T, s string, at int, want api.Errno) {
	t.Helper()
	for _, opt := range ways {
		m, place, errno := comp.Compile(s, opt)
		if errno != want || place != at || !reflect.DeepEqual(m, api.Program{}) {
			t.Errorf("%.200q, %v: %d, %v, %d functions; want %d, %v", s, opt, place, errno, len(m.Funcs), at, want)
		}
	}
}

// TestReadRefuses: with the place of the byte where that begins.
func TestReadRefuses(t *testing.T) {
	deep := func(n int) string {
		return `func main() { print(` + strings.Repeat("(", n) + "1" + strings.Repeat(")", n) + `) }`
	}
	for s, c := range map[string]struct {
		at    int
		errno api.Errno
	}{
		strings.Repeat(" ", api.MaxSource+1):                   {0, api.ErrSize},
		"func main() { }" + strings.Repeat(" ", api.MaxSource): {0, api.ErrSize},
		`func main() { thirteenchars := 1 }`:                   {14, api.ErrSize},
		`func main() { print(1099511627777) }`:                 {20, api.ErrRange},
		`func main() { print(01) }`:                            {20, api.ErrForm},
		`func main() { x := "\x" }`:                            {19, api.ErrForm},
		`func main() { x := 1; }`:                              {20, api.ErrForm},
		`func main() { x := "a }`:                              {19, api.ErrShort},
		`func main() { `:                                       {14, api.ErrShort},
		`func`:                                                 {4, api.ErrShort},
		`main() { }`:                                           {0, api.ErrForm},
		`func main() { print() }`:                              {19, api.ErrCount},
		`func main() { x := len(1, 2) }`:                       {19, api.ErrCount},
		`func main() { } func f(a int, b int, c int, d int, e int) { }`: {16, api.ErrCount},
		strings.Repeat("func f() { }", api.MaxFuncs+1):                  {12 * api.MaxFuncs, api.ErrSize},
		deep(api.MaxNest):    {20 + api.MaxNest - 1, api.ErrDeep},
		`func main() { if }`: {17, api.ErrForm},
	} {
		wantWrong(t, s, c.at, c.errno)
	}
}

// TestCheckRefuses: with the place of the function where that is.
func TestCheckRefuses(t *testing.T) {
	for body, errno := range map[string]api.Errno{
		`print(x)`:                             api.ErrNone,
		`none()`:                               api.ErrNone,
		`x := 1 x := 2`:                        api.ErrTwice,
		`switch 1 { case 2: { } case 2: { } }`: api.ErrTwice,
		`x := 1 x = true`:                      api.ErrType,
		`print(slice())`:                       api.ErrType,
		`print(1 + "a")`:                       api.ErrType,
		`if 1 { }`:                             api.ErrType,
		`main(1)`:                              api.ErrCount,
		`return 1`:                             api.ErrCount,
		`break`:                                api.ErrUse,
	} {
		wantWrong(t, "func main() { "+body+" }", 0, errno)
		wantWrong(t, "func main() { } func f() { "+body+" }", 1, errno)
		wantWrong(t, "func main() { } func f() { } func g() { "+body+" } func h() { "+body+" }", 2, errno)
	}
	for s, c := range map[string]struct {
		at    int
		errno api.Errno
	}{
		``:                                 {0, api.ErrNone},
		"\n\t ":                            {0, api.ErrNone},
		`func main(a int) { }`:             {0, api.ErrCount},
		`func main() int { return 1 }`:     {0, api.ErrCount},
		`func main() { } func f() int { }`: {1, api.ErrFall},
		`func main() { } func f() { } func main() { }`: {2, api.ErrTwice},
		`func main() { } func f(a int, a bool) { }`:    {1, api.ErrTwice},
	} {
		wantWrong(t, s, c.at, c.errno)
	}
}

// TestOrder: what Read refuses comes first, wherever it is.
func TestOrder(t *testing.T) {
	wantWrong(t, `func main() { print(x) } func f() { print(y }`, 44, api.ErrForm)
	wantWrong(t, `func main() { print(x) } func f() { print(y) } @`, 47, api.ErrForm)
	wantWrong(t, `func main() { print(x) } func f() { print(y) `, 45, api.ErrShort)
	wantWrong(t, `func main() { print(1) } func f() { print(y) }`, 1, api.ErrNone)
}

// TestTooLong: sources whose code would be too long are refused at no place, and all others are compiled.
func TestTooLong(t *testing.T) {
	const head = `func main(){l:=slice(0)x:=0 `
	refused := 0
	for n := 10; n < 190; n += 20 {
		s := head + strings.Repeat("x=l[l[l[l[l[0]]]]] ", n) + "}"
		for _, opt := range ways {
			m, at, errno := comp.Compile(s, opt)
			switch {
			case errno == api.OK:
				if e := vm.Check(m); e != api.OK || at != 0 {
					t.Errorf("%d: %v at %d", n, e, at)
				}
			case errno != api.ErrSize || at != 0 || !reflect.DeepEqual(m, api.Program{}):
				t.Errorf("%d: %v at %d", n, errno, at)
			default:
				refused++
			}
		}
	}
	if refused == 0 {
		t.Error("none is too long")
	}
	wantWrong(t, head+strings.Repeat("x=l[l[l[l[l[0]]]]] ", 205)+"}", 0, api.ErrSize)
}

// TestShortSources: nothing that stands in 300 bytes is too long.
func TestShortSources(t *testing.T) {
	const most = 300
	for _, c := range []struct{ head, part, tail string }{
		{`func main(){x:=0 l:=slice(0)`, ` x=l[l[l[l[l[0]]]]]`, `}`},
		{`func main(){l:=slice(0)`, ` l[0]=l[0]`, `}`},
		{`func main(){x:=slice(0`, `,0`, `)}`},
		{`func main(){a:=slice(0)x:=slice(0`, `,a[0]`, `)}`},
		{`func main(){`, `if true{}`, `}`},
		{`func main(){`, `for i,j:=range map(){}`, `}`},
		{`func main(){`, `for i,j:=range ""{}`, `}`},
		{`func main(){`, `for i,j:=range 99{`, strings.Repeat(`}`, 16)},
		{`func main(){x:=true`, `&&true`, `}`},
		{`func main(){x:=""`, `+""`, `}`},
		{`func main(){x:=""<=""`, `&&""<=""`, `}`},
		{`func main(){x:=0`, ` x=-x`, `}`},
		{`func main(){m:=map()`, ` m[0]=m[0]`, `}`},
		{`func main(){}`, ``, ``},
		{`func main(){}`, ` `, ``},
	} {
		s := c.head
		for len(c.part) > 0 && len(s)+len(c.part)+len(c.tail) <= most {
			s += c.part
		}
		for _, opt := range ways {
			mustCompile(t, s+c.tail, opt)
		}
	}
	for _, by := range []int{1, 3, 99} {
		s := "func main(){switch 0{case -50"
		for n := by - 50; len(s) < most-20; n += by {
			s += "," + itoa(n)
		}
		for _, opt := range ways {
			mustCompile(t, s+":{}}}", opt)
		}
	}
}
