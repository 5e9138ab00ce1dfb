package typed_test

import (
	"math"
	"strings"
	"testing"

	"postern/api"
)

// P2.4: expressions without Args, and the bounds of what they hold.
func TestPlainTypes(t *testing.T) {
	for _, n := range []int{0, 1, -1, 7, api.MaxNumber, -api.MaxNumber} {
		checkType(t, n, num(n), api.Int, api.OK)
	}
	for _, n := range []int{api.MaxNumber + 1, -api.MaxNumber - 1, math.MaxInt, math.MinInt} {
		checkType(t, n, num(n), 0, api.ErrRange)
	}
	for _, n := range []int{0, 1, 10, api.MaxSource - 1, api.MaxSource} {
		checkType(t, n, text(strings.Repeat("\xff", n)), api.Str, api.OK)
	}
	for _, n := range []int{api.MaxSource + 1, 3 * api.MaxSource} {
		checkType(t, n, text(strings.Repeat("é", n)[:n]), 0, api.ErrSize)
	}
	for n := -3; n < 5; n++ {
		e := of(api.Truth)
		e.N = n
		if n == 0 || n == 1 {
			checkType(t, n, e, api.Bool, api.OK)
		} else {
			checkType(t, n, e, 0, api.ErrRange)
		}
	}
	checkType(t, "an empty map", of(api.Empty), api.Map, api.OK)
	for i, e := range ofType() {
		if i > 0 {
			checkType(t, e, e, i, api.OK)
		}
	}
	for _, s := range []string{"x", "", "none", "int1", "main", "if", "I", "i "} {
		checkType(t, s, variable(s), 0, api.ErrNone)
	}
}

// P2.4: what each operator makes of two types; of all others it makes nothing.
func TestOperators(t *testing.T) {
	const (
		i, b, s = api.Int, api.Bool, api.Str
		absent  = -1
	)
	rules := map[string]map[int]int{}
	for ops, rule := range map[string]map[int]int{
		"+":         {i: i, s: s},
		"- * / %":   {i: i},
		"&& ||":     {b: b},
		"== !=":     {i: b, b: b, s: b},
		"< <= > >=": {i: b, s: b},
	} {
		for _, op := range strings.Fields(ops) {
			rules[op] = rule
		}
	}
	if len(rules) != 13 {
		t.Fatal(rules)
	}
	for op, rule := range rules {
		for left, x := range ofType() {
			for right, y := range ofType() {
				e := with(of(api.Two, x, y), op)
				want, ok := rule[left]
				if ok && left == right {
					checkType(t, e, e, want, api.OK)
				} else {
					checkType(t, e, e, 0, api.ErrType)
				}
			}
		}
	}
	for kind, e := range ofType() {
		for op, of1 := range map[string]int{"-": i, "!": b} {
			e := with(of(api.One, e), op)
			if kind == of1 {
				checkType(t, e, e, kind, api.OK)
			} else {
				checkType(t, e, e, absent, api.ErrType)
			}
		}
	}
}

// P2.4: other operators there are not, whatever they stand between.
func TestNoOperators(t *testing.T) {
	for _, op := range []string{"", "!", "=", ":=", "&", "|", "^", "<<", "++", "and", " +", "+ ", "len", "<>", "=="[:1], "[", "-\x00"} {
		for _, x := range ofType()[1:] {
			for _, y := range ofType()[1:] {
				e := with(of(api.Two, x, y), op)
				checkType(t, e, e, 0, api.ErrForm)
			}
		}
	}
	for _, op := range []string{"", "+", "*", "!!", "--", "~", "not", "==", "&&", " -", "! "} {
		for _, x := range ofType()[1:] {
			e := with(of(api.One, x), op)
			checkType(t, e, e, 0, api.ErrForm)
		}
	}
}

// P2.4: Len, At and Add of all types.
func TestParts(t *testing.T) {
	parts := map[int]bool{api.Str: true, api.Slice: true, api.Map: true}
	errno := func(fits bool) api.Errno {
		if fits {
			return api.OK
		}
		return api.ErrType
	}
	for a, x := range ofType() {
		e := of(api.Len, x)
		checkType(t, e, e, api.Int, errno(parts[a]))
		for b, y := range ofType() {
			e := of(api.At, x, y)
			checkType(t, e, e, api.Int, errno(parts[a] && b == api.Int))
			e = of(api.Add, x, y)
			checkType(t, e, e, api.Slice, errno(a == api.Slice && b == api.Int))
		}
	}
}

// P2.4: lists of Ints; how many there are is told behind what is wrong in them.
func TestLists(t *testing.T) {
	for _, n := range []int{0, 1, 2, 5, api.MaxSource - 1, api.MaxSource} {
		checkType(t, n, of(api.List, make1(n, num(1))...), api.Slice, api.OK)
	}
	for i, e := range ofType() {
		if i == api.Int {
			continue
		}
		for at := range 3 {
			l := make1(3, num(1))
			l[at] = e
			checkType(t, l, of(api.List, l...), 0, api.ErrType)
		}
	}
	for _, n := range []int{api.MaxSource + 1, 2 * api.MaxSource} {
		l := make1(n, num(1))
		checkType(t, n, of(api.List, l...), 0, api.ErrSize)
		l[1] = text("")
		checkType(t, n, of(api.List, l...), 0, api.ErrSize)
		l[n-1] = variable("zz")
		checkType(t, n, of(api.List, l...), 0, api.ErrNone)
	}
}

// make1: a list of so many times the same.
func make1(n int, e api.Expr) []api.Expr {
	var l []api.Expr
	for range n {
		l = append(l, e)
	}
	return l
}

// P2.4: calls.
func TestCalls(t *testing.T) {
	for i, name := range typeNames()[1:] {
		for k, e := range ofType() {
			c := call(name+"1", e)
			if k == i+1 {
				checkType(t, c, c, k, api.OK)
			} else {
				checkType(t, c, c, 0, api.ErrType)
			}
		}
	}
	bodies{
		"none()":                       api.OK,
		"none(1)":                      api.ErrCount,
		"int1()":                       api.ErrCount,
		"int1(1, 2)":                   api.ErrCount,
		"int1(true, 2)":                api.ErrCount,
		"three(1, s, l)":               api.OK,
		"three(i + 1, s + s, slice())": api.OK,
		"three(1, s)":                  api.ErrCount,
		"three(1, s, l, m)":            api.ErrCount,
		"three(s, s, l)":               api.ErrType,
		"three(1, 1, l)":               api.ErrType,
		"three(1, s, m)":               api.ErrType,
		"nothing()":                    api.ErrNone,
		"nothing(1)":                   api.ErrNone,
		"i()":                          api.ErrNone,
		"s(1)":                         api.ErrNone,
		"nothing(zz + 1)":              api.ErrNone,
		"nothing(true + 1)":            api.ErrType,
		"nothing(int1())":              api.ErrCount,
		"none(true + 1)":               api.ErrType,
		"print(int1(int1(int1(7))))":   api.OK,
		"print(int1(len(text1(s))))":   api.OK,
		"print(int1(text1(s)))":        api.ErrType,
		"none(none())":                 api.ErrType,
		"int1(none())":                 api.ErrType,
		"three(1, s, none())":          api.ErrType,
		"x := slice(none())":           api.ErrType,
		"x := none() + 1":              api.ErrType,
		"x := none() == none()":        api.ErrType,
		"x := -none()":                 api.ErrType,
		"x := len(none())":             api.ErrType,
		"x := l[none()]":               api.ErrType,
	}.check(t)
}

// P2.2: there are twelve kinds.
func TestExprKinds(t *testing.T) {
	for _, kind := range []int{math.MinInt, -1, 0, 13, 14, 99, math.MaxInt} {
		e := of(kind)
		checkType(t, kind, e, 0, api.ErrKind)
		checkType(t, kind, of(kind, num(1)), 0, api.ErrKind)
		checkType(t, kind, of(kind, variable("zz"), of(kind), num(1)), 0, api.ErrKind)
		checkType(t, kind, of(api.Len, e), 0, api.ErrKind)
		checkType(t, kind, of(api.At, variable("l"), e), 0, api.ErrKind)
	}
}

// P2.2: how many Args each kind has, told ahead of all that is in them.
func TestArgCounts(t *testing.T) {
	for kind, want := range map[int]int{
		api.Num: 0, api.Text: 0, api.Truth: 0, api.Var: 0, api.Two: 2, api.One: 1, api.Len: 1, api.At: 2, api.Add: 2, api.Empty: 0,
	} {
		for n := range 5 {
			if n == want {
				continue
			}
			e := of(kind, make1(n, num(1))...)
			checkType(t, e, e, 0, api.ErrCount)
			e = of(kind, make1(n, of(99))...)
			checkType(t, e, e, 0, api.ErrCount)
			e.N, e.S = math.MaxInt, strings.Repeat("x", api.MaxSource+1)
			checkType(t, kind, e, 0, api.ErrCount)
		}
	}
}

// P2.2 and P2.4: from left to right, an outer one ahead of what is in it, its type behind that.
func TestExprOrder(t *testing.T) {
	none, kind, count, big := variable("zz"), of(0), of(api.Len), num(math.MaxInt)
	bad := with(of(api.One, num(1)), "?")
	two := func(op string, l ...api.Expr) api.Expr { return with(of(api.Two, l...), op) }
	for _, c := range []struct {
		e     api.Expr
		errno api.Errno
	}{
		{two("+", none, kind), api.ErrNone},
		{two("+", kind, none), api.ErrKind},
		{two("+", count, kind), api.ErrCount},
		{two("+", big, none), api.ErrRange},
		{two("+", bad, big), api.ErrForm},
		{two("?", big, bad), api.ErrRange},
		{two("?", num(1), none), api.ErrNone},
		{two("?", num(1), of(api.Empty)), api.ErrForm},
		{two("+", of(api.Empty), big), api.ErrRange},
		{two("+", two("+", num(1), of(api.Empty)), big), api.ErrType},
		{two("+", num(1), two("?", num(1), of(api.Empty))), api.ErrForm},
		{with(of(api.One, none), "?"), api.ErrNone},
		{of(api.Len, of(api.At, num(1), none)), api.ErrNone},
		{of(api.At, num(1), big), api.ErrRange},
		{of(api.Add, big, none), api.ErrRange},
		{of(api.List, of(api.Empty), kind), api.ErrKind},
		{of(api.List, num(1), count, none), api.ErrCount},
		{call("zz", num(1), big), api.ErrRange},
		{call("int1", of(api.Empty), big), api.ErrRange},
		{call("int1", kind, count), api.ErrKind},
		{call("int1", call("zz"), kind), api.ErrNone},
		{of(api.Len, kind, kind), api.ErrCount},
		{two("+", call("none"), none), api.ErrType},
		{two("?", call("none"), num(1)), api.ErrType},
		{two("+", none, call("none")), api.ErrNone},
		{call("zz", call("none")), api.ErrType},
		{call("int1", call("none"), num(1)), api.ErrType},
		{of(api.At, call("none"), big), api.ErrType},
	} {
		checkType(t, c.e, c.e, 0, c.errno)
	}
}

// wraps: ways to put an Int into an expression that is an Int.
func wraps() []func(api.Expr) api.Expr {
	return []func(api.Expr) api.Expr{
		func(e api.Expr) api.Expr { return with(of(api.One, e), "-") },
		func(e api.Expr) api.Expr { return with(of(api.Two, e, num(1)), "+") },
		func(e api.Expr) api.Expr { return with(of(api.Two, num(1), e), "*") },
		func(e api.Expr) api.Expr { return of(api.At, variable("l"), e) },
		func(e api.Expr) api.Expr { return call("int1", e) },
	}
}

// P2.2: an expression is in less than 4 * MaxNest expressions and statements; what is wrong with its kind and its Args comes ahead of that.
func TestDeepExpressions(t *testing.T) {
	const most = 4*api.MaxNest - 3 // so many more, in a statement, and in an expression
	for _, wrap := range wraps() {
		for times, want := range map[int]api.Errno{1: api.OK, most - 1: api.OK, most: api.OK, most + 1: api.ErrDeep, most + 2: api.ErrDeep, 1 << 12: api.ErrDeep} {
			for inner, errno := range map[int]api.Errno{api.Num: api.OK, api.Len: api.ErrCount, 13: api.ErrKind} {
				want := want
				if times <= most+1 && errno != api.OK {
					want = errno
				}
				e := wrapped(with(of(api.One, of(inner)), "-"), times-1, wrap)
				checkBody(t, times, block(naming("x", api.Let, call("int1", e))), want)
			}
		}
		// what is deep does not hide what is ahead, and leaves nothing behind
		full := call("int1", wrapped(num(1), most, wrap))
		deep := call("int1", wrapped(num(1), most+1, wrap))
		checkBody(t, "again", block(doing(api.Do, full), doing(api.Print, full), naming("i", api.Set, full)), api.OK)
		checkBody(t, "ahead", block(doing(api.Do, full), doing(api.Print, with(of(api.Two, variable("zz"), deep), "+"))), api.ErrNone)
		checkBody(t, "behind", block(doing(api.Do, full), doing(api.Print, with(of(api.Two, deep, variable("zz")), "+"))), api.ErrDeep)
		checkBody(t, "side by side", block(doing(api.Print, with(of(api.Two, wrapped(num(1), most, wrap), wrapped(num(2), most, wrap)), "+"))), api.OK)
	}
	deepest := wrapped(num(math.MaxInt), most+1, wraps()[0])
	checkBody(t, "deep ahead of range", block(naming("x", api.Let, call("int1", deepest))), api.ErrDeep)
	for n, want := range map[int]api.Errno{4*api.MaxNest - 2: api.OK, 4*api.MaxNest - 1: api.ErrDeep} {
		bodies{"x := 1" + strings.Repeat(" + 1", n): want, "print(s" + strings.Repeat(" + s", n) + ")": want}.check(t)
	}
}
