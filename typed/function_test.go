package typed_test

import (
	"strconv"
	"testing"

	"postern/api"
	"postern/typed"
)

// many functions that fit, of different names.
func many(n int) []api.Func {
	var fs []api.Func
	for i := range n {
		fs = append(fs, api.Func{Name: "f" + strconv.Itoa(i)})
	}
	return fs
}

// P2.1: how many functions there may be; that is told ahead of all else.
func TestCounts(t *testing.T) {
	checkFuncs(t, "nil", nil, answer{0, api.ErrNone})
	checkFuncs(t, "empty", []api.Func{}, answer{0, api.ErrNone})
	for n := 1; n <= api.MaxFuncs; n++ {
		checkFuncs(t, n, many(n), answer{0, api.OK})
	}
	for _, n := range []int{1, 2, 100} {
		fs := many(api.MaxFuncs + n)
		checkFuncs(t, n, fs, answer{0, api.ErrSize})
		fs[0].Name, fs[0].Result = "", 1
		checkFuncs(t, n, fs, answer{0, api.ErrSize})
	}
}

// P2.1: names of functions, one by one, ahead of what the functions are.
func TestFunctionNames(t *testing.T) {
	for _, name := range goodNames() {
		for at := range 3 {
			fs := many(3)
			fs[at].Name = name
			checkFuncs(t, name, fs, answer{0, api.OK})
		}
	}
	for _, name := range badNames() {
		for at := range 3 {
			fs := many(3)
			fs[at].Name = name
			checkFuncs(t, name, fs, answer{at, api.ErrForm})
			fs[0].Result = api.Int
			checkFuncs(t, name, fs, answer{at, api.ErrForm})
			fs[0].Body = block(doing(99))
			checkFuncs(t, name, fs, answer{at, api.ErrForm})
		}
	}
	fs := many(5)
	fs[3].Name, fs[4].Name = "f1", ""
	checkFuncs(t, "twice ahead of form", fs, answer{3, api.ErrTwice})
	fs[2].Name = "7"
	checkFuncs(t, "form ahead of twice", fs, answer{2, api.ErrForm})
	fs = many(5)
	fs[1].Name, fs[2].Name = "if", "if"
	checkFuncs(t, "a keyword twice", fs, answer{1, api.ErrForm})
	sources{
		"func a() { } func a() { }":                             {1, api.ErrTwice},
		"func a() { } func b() { } func b() { } func a() { }":   {2, api.ErrTwice},
		"func a(x int) { } func b() { } func a() { }":           {2, api.ErrTwice},
		"func a() { x = 1 } func b() int { } func a() { }":      {2, api.ErrTwice},
		"func a() { } func aa() { } func a1() { } func b() { }": {0, api.OK},
	}.check(t)
}

// P2.1: the first function has no params, and no Result; that is told behind all names, and ahead of what functions are.
func TestFirstFunction(t *testing.T) {
	sources{
		"func a(x int) { }":                                     {0, api.ErrCount},
		"func a() int { return 1 }":                             {0, api.ErrCount},
		"func a() int { }":                                      {0, api.ErrCount},
		"func a(x int, x int) { y = 1 }":                        {0, api.ErrCount},
		"func a(x map) map { return x }":                        {0, api.ErrCount},
		"func a(x int) { } func b() { x = 1 }":                  {0, api.ErrCount},
		"func b() { } func a(x int) int { return x }":           {0, api.OK},
		"func b() { x := a(1) } func a(x int) int { return x }": {0, api.OK},
	}.check(t)
	for _, result := range []int{-1, 1, 5, 6, 99} {
		checkFuncs(t, result, []api.Func{{Name: "a", Result: result}}, answer{0, api.ErrCount})
	}
	checkFuncs(t, "a bad param", []api.Func{{Name: "a", Params: []api.Param{{}}}}, answer{0, api.ErrCount})
}

// P2.1 and P2.3: what a function has, in this order.
func TestFunctionParts(t *testing.T) {
	bad := []api.Param{{Name: "", Type: 1}}
	five := []api.Param{{Name: "a", Type: 1}, {Name: "b", Type: 2}, {Name: "c", Type: 3}, {Name: "d", Type: 4}, {Name: "e", Type: 5}}
	wrong := block(naming("zz", api.Set, num(1)))
	for _, c := range []struct {
		f     api.Func
		errno api.Errno
	}{
		{api.Func{}, api.OK},
		{api.Func{Result: -1}, api.ErrKind},
		{api.Func{Result: 6}, api.ErrKind},
		{api.Func{Result: 6, Params: five}, api.ErrKind},
		{api.Func{Result: 1 << 40, Params: bad, Body: wrong}, api.ErrKind},
		{api.Func{Params: five[:4]}, api.OK},
		{api.Func{Params: five[1:]}, api.OK},
		{api.Func{Params: five}, api.ErrCount},
		{api.Func{Params: append(bad, five...), Body: wrong}, api.ErrCount},
		{api.Func{Params: bad, Body: wrong}, api.ErrForm},
		{api.Func{Params: five[:1], Body: wrong}, api.ErrNone},
		{api.Func{Result: 1, Body: wrong}, api.ErrNone},
		{api.Func{Result: 1}, api.ErrFall},
		{api.Func{Result: 5, Params: five[:4]}, api.ErrFall},
		{api.Func{Result: 1, Body: block(doing(api.Return, num(1)))}, api.OK},
		{api.Func{Result: 1, Body: block(doing(api.Return, num(1)), naming("x", api.Let, num(1)))}, api.ErrFall},
	} {
		c.f.Name = "f"
		for at := 1; at < 4; at++ {
			fs := append(append(many(at), c.f), api.Func{Name: "last"})
			want := answer{at, c.errno}
			if c.errno == api.OK {
				want.at = 0
			}
			checkFuncs(t, c.f, fs, want)
			if c.errno != api.OK {
				fs[at+1].Body = block(doing(99)) // what follows is not looked at
				checkFuncs(t, c.f, fs, want)
			}
		}
	}
}

// P2.1 and P2.3: params are names, and have types.
func TestParams(t *testing.T) {
	check := func(want api.Errno, l ...api.Param) {
		t.Helper()
		at := 1
		if want == api.OK {
			at = 0
		}
		checkFuncs(t, l, []api.Func{{Name: "a"}, {Name: "b", Params: l}}, answer{at, want})
	}
	for _, name := range goodNames() {
		check(api.OK, api.Param{Name: name, Type: 1}, api.Param{Name: "y", Type: 2})
	}
	for _, name := range badNames() {
		check(api.ErrForm, api.Param{Name: name, Type: 1})
		check(api.ErrForm, api.Param{Name: "x", Type: 1}, api.Param{Name: name, Type: 1})
		check(api.ErrForm, api.Param{Name: name, Type: 9}, api.Param{Name: name, Type: 1})
	}
	for kind := -2; kind < 9; kind++ {
		want := api.ErrType
		if kind >= api.Int && kind <= api.Map {
			want = api.OK
		}
		check(want, api.Param{Name: "x", Type: kind})
		check(want, api.Param{Name: "x", Type: 1}, api.Param{Name: "y", Type: kind})
	}
	check(api.ErrTwice, api.Param{Name: "x", Type: 1}, api.Param{Name: "x", Type: 2})
	check(api.ErrTwice, api.Param{Name: "x", Type: 1}, api.Param{Name: "y", Type: 1}, api.Param{Name: "x", Type: 0})
	check(api.ErrType, api.Param{Name: "x", Type: 0}, api.Param{Name: "x", Type: 1})
	check(api.ErrType, api.Param{Name: "x", Type: 6}, api.Param{Name: "", Type: 1})
	sources{
		"func a() { } func x(x int) int { return x }":                                 {0, api.OK}, // functions and variables have different names
		"func a() { a := 1 print(a) } func b(a int) { a() }":                          {0, api.OK},
		"func a() { } func b(x int) { } func c(x string) { }":                         {0, api.OK},
		"func a() { } func b(x int) { } func c() { print(x) }":                        {2, api.ErrNone},
		"func a() { print(x) } func b(x int) { }":                                     {0, api.ErrNone},
		"func a() { } func b(x string) int { return x }":                              {1, api.ErrType},
		"func a() { } func b(x string) int { x := 1 return x }":                       {0, api.OK}, // a body is a scope of its own
		"func a() { } func b(x int) int { if x > 0 { x := true } return x }":          {0, api.OK},
		"func a() { } func b(x int) int { x := \"a\" if true { return 1 } return x }": {1, api.ErrType},
	}.check(t)
}

// P2.1: functions are looked through one by one.
func TestFunctionOrder(t *testing.T) {
	sources{
		"func a() { x = 1 } func b() int { }":                                   {0, api.ErrNone},
		"func a() { } func b() int { } func c() { x = 1 }":                      {1, api.ErrFall},
		"func a() { } func b() { x = 1 } func c() int { }":                      {1, api.ErrNone},
		"func a() { b(true) } func b(a int, a int) { }":                         {0, api.ErrCount},
		"func a() { b(true, 1) } func b(a int, a int) { }":                      {0, api.ErrType},
		"func a() { b(1, 1) } func b(a int, a int) { }":                         {1, api.ErrTwice},
		"func a() { c() } func b() { a() b() c() } func c() { b() }":            {0, api.OK},
		"func a() { print(b()) } func b() bool { return c() } func c() int { }": {1, api.ErrType},
	}.check(t)
}

// P2.1 and P2.3: functions that are called may have a Result, or params, that are none; they are refused later, unless what calls them does not fit.
func TestCallsOfWrongFunctions(t *testing.T) {
	wrong := api.Func{Name: "b", Result: 99}
	odd := api.Func{Name: "b", Params: []api.Param{{Name: "x", Type: 99}}}
	void := api.Func{Name: "b", Params: []api.Param{{Name: "x"}}}
	for _, c := range []struct {
		f    api.Func
		s    api.Stmt
		want answer
	}{
		{wrong, doing(api.Do, call("b")), answer{1, api.ErrKind}},
		{wrong, naming("x", api.Let, call("b")), answer{0, api.ErrType}},
		{wrong, doing(api.Print, call("b")), answer{0, api.ErrType}},
		{wrong, doing(api.Print, with(of(api.Two, call("b"), call("b")), "==")), answer{0, api.ErrType}},
		{wrong, doing(api.If, call("b")), answer{0, api.ErrType}},
		{wrong, doing(api.Print, of(api.Len, call("b"))), answer{0, api.ErrType}},
		{odd, doing(api.Do, call("b", num(1))), answer{0, api.ErrType}},
		{odd, doing(api.Do, call("b")), answer{0, api.ErrCount}},
		{void, doing(api.Do, call("b", call("a"))), answer{0, api.ErrType}},
		{void, doing(api.Do, call("b", num(1))), answer{0, api.ErrType}},
	} {
		checkFuncs(t, c.s, []api.Func{{Name: "a", Body: block(c.s)}, c.f}, c.want)
	}
}

// P2.7: what a block ends by.
func TestEnds(t *testing.T) {
	for s, want := range map[string]bool{
		"": false, "return": true, "return 1": true, "return 1 x = 1": false, "x = 1 return": true, "print(1)": false,
		"if x { return }": false, "if x { return } else { return }": true, "if x { } else { return }": false,
		"if x { return } else { }": false, "if x { y = 1 return 1 } else { return 2 }": true,
		"if x { return 1 y = 1 } else { return }": false, "if x { return } else { return 1 y = 1 }": false,
		"if x { return } else { return } x = 1": false,
		"if x { return } else if y { return }":  false, "if x { return } else if y { return } else { return }": true,
		"for true { return }": false, "for i, j := range 3 { return }": false, "for true { }": false,
		"break": false, "continue": false, "f()": false, "x := 1": false, "x[1] = 2": false, "delete(m, 1)": false,
		"switch x { }": false, "switch x { default: { return } }": true, "switch x { default: { } }": false,
		"switch x { case 1: { return } }": false, "switch x { case 1: { return } default: { return } }": true,
		"switch x { case 1: { } default: { return } }": false, "switch x { case 1: { return } default: { x = 1 } }": false,
		"switch x { case 1: { return } case 2: { } default: { return } }":                                        false,
		"switch x { case 1: { } case 2: { return } default: { return } }":                                        false,
		"switch x { case 1: { return } case 2, 3: { return } default: { return } }":                              true,
		"switch x { case 1: { if y { return } else { return } } default: { switch y { default: { return } } } }": true,
		"switch x { case 1: { if y { return } } default: { return } }":                                           false,
	} {
		if got := typed.Ends(mustRead(t, "func a() { "+s+" }")[0].Body); got != want {
			t.Errorf("%q: %v, want %v", s, got, want)
		}
	}
	for kind := -1; kind < 20; kind++ { // only an If and a Switch are asked what is in them
		end := block(doing(api.Return))
		s := api.Stmt{Kind: kind, Body: end, Else: end, Cases: []api.Case{{Body: end}}}
		want := kind == api.If || kind == api.Switch || kind == api.Return
		if got := typed.Ends(block(s)); got != want {
			t.Errorf("kind %d: %v, want %v", kind, got, want)
		}
	}
	deep := doing(api.Return)
	for range 1 << 15 {
		deep = api.Stmt{Kind: api.If, Body: block(doing(api.Return)), Else: block(deep)}
	}
	if !typed.Ends(block(deep)) {
		t.Error("a long chain of else if")
	}
}

// P2.1 and P2.7: a function with a Result ends by a return.
func TestFall(t *testing.T) {
	const head = "func a() { } func b(x int) int { "
	sources{
		head + "}":                                         {1, api.ErrFall},
		head + "x = 1 }":                                   {1, api.ErrFall},
		head + "return x }":                                {0, api.OK},
		head + "return x x = 1 }":                          {1, api.ErrFall},
		head + "return x return x }":                       {0, api.OK},
		head + "for true { return x } }":                   {1, api.ErrFall},
		head + "if x > 0 { return x } }":                   {1, api.ErrFall},
		head + "if x > 0 { return x } else { return 1 } }": {0, api.OK},
		head + "switch x { case 1: { return 1 } default: { return 2 } } }":     {0, api.OK},
		head + "switch x { case 1: { return 1 } } }":                           {1, api.ErrFall},
		head + "} func c() { x = 1 }":                                          {1, api.ErrFall},
		head + "x = true }":                                                    {1, api.ErrType},
		head + "if x > 0 { return x } else { return true } }":                  {1, api.ErrType},
		"func a() { return } func b() { if true { return } } func c() { a() }": {0, api.OK},
	}.check(t)
}
