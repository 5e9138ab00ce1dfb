package typed_test

import (
	"strings"
	"testing"

	"postern/api"
	"postern/read"
	"postern/typed"
)

// answer of Check: an error and the place of a function.
type answer struct {
	at    int
	errno api.Errno
}

func checkFuncs(t *testing.T, what any, fs []api.Func, want answer) {
	t.Helper()
	if at, errno := typed.Check(fs); at != want.at || errno != want.errno {
		t.Errorf("%v: %d, %v; want %d, %v", what, at, errno, want.at, want.errno)
	}
}

func mustRead(t *testing.T, source string) []api.Func {
	t.Helper()
	fs, at, errno := read.Read(source)
	if errno != api.OK {
		t.Fatalf("%q: refused at %d with %v", source, at, errno)
	}
	return fs
}

// sources and what Check must answer to their functions.
type sources map[string]answer

func (l sources) check(t *testing.T) {
	t.Helper()
	for s, want := range l {
		checkFuncs(t, s, mustRead(t, s), want)
	}
}

// helpers: functions that others may call, of each type, and of none.
const helpers = ` func none() { }
func int1(a int) int { return a } func bool1(a bool) bool { return a } func text1(a string) string { return a }
func slice1(a slice) slice { return a } func map1(a map) map { return a }
func three(a int, b string, c slice) { }`

// variables of each type.
const variables = `i := 1 b := true s := "a" l := slice(1, 2) m := map() `

// checkBody: what Check must answer to a function without a Result, in which there are variables, and then these statements; it is the first one, or one that follows.
func checkBody(t *testing.T, what any, body []api.Stmt, errno api.Errno) {
	t.Helper()
	checkIn(t, what, api.Func{Name: "main"}, body, errno)
}

func checkIn(t *testing.T, what any, f api.Func, body []api.Stmt, errno api.Errno) {
	t.Helper()
	others := mustRead(t, helpers)
	f.Body = append(mustRead(t, "func a() { "+variables+" }")[0].Body, body...)
	places := []int{0, 1, len(others)}
	if f.Result != api.None || len(f.Params) > 0 {
		places = places[1:]
	}
	for _, at := range places {
		fs := append(append(append([]api.Func(nil), others[:at]...), f), others[at:]...)
		want := answer{at, errno}
		if errno == api.OK {
			want.at = 0
		}
		checkFuncs(t, what, fs, want)
	}
}

// bodies of functions, as they stand in a source, and how they must be refused.
type bodies map[string]api.Errno

func (l bodies) check(t *testing.T) {
	t.Helper()
	for s, errno := range l {
		checkBody(t, s, mustRead(t, "func a() { "+s+" }")[0].Body, errno)
	}
}

// Short ways to write trees.

func num(n int) api.Expr                    { return api.Expr{Kind: api.Num, N: n} }
func of(kind int, l ...api.Expr) api.Expr   { return api.Expr{Kind: kind, Args: l} }
func with(e api.Expr, s string) api.Expr    { e.S = s; return e }
func call(s string, l ...api.Expr) api.Expr { return with(of(api.Call, l...), s) }
func variable(s string) api.Expr            { return with(of(api.Var), s) }
func text(s string) api.Expr                { return with(of(api.Text), s) }
func doing(kind int, l ...api.Expr) api.Stmt {
	return api.Stmt{Kind: kind, Exprs: l}
}
func naming(s string, kind int, l ...api.Expr) api.Stmt {
	return api.Stmt{Kind: kind, S: s, Exprs: l}
}
func block(l ...api.Stmt) []api.Stmt { return l }

// badNames: what may not be the name of anything.
func badNames() []string {
	l := strings.Fields("func if else for range switch case default return print break continue delete true false len append slice map int bool string")
	return append(l, "", "1", "1a", "A", "aB", "a_b", "_", "é", "aé", "a b", " a", "a ", "a\n", "a\x00", "abcdefghijklm", strings.Repeat("x", 300))
}

func goodNames() []string {
	return []string{"x", "zz", "x1", "x0y9", "xif", "if1", "func0", "abcdefghijkl", "a23456789012"}
}

// typeNames: words of types, by their numbers.
func typeNames() []string { return []string{"none", "int", "bool", "text", "slice", "map"} }

// checkType: an expression must have that type, or be refused.
func checkType(t *testing.T, what any, e api.Expr, want int, errno api.Errno) {
	t.Helper()
	for i, name := range typeNames()[1:] {
		errno := errno
		if errno == api.OK && want != i+1 {
			errno = api.ErrType
		}
		checkBody(t, what, block(doing(api.Do, call(name+"1", e))), errno)
	}
}

// ofType: some expression of each type; of None: a call.
func ofType() []api.Expr {
	return []api.Expr{call("none"), variable("i"), variable("b"), variable("s"), variable("l"), variable("m")}
}

// wrapped so many times in expressions: each of them is in one more.
func wrapped(e api.Expr, times int, wrap func(api.Expr) api.Expr) api.Expr {
	for range times {
		e = wrap(e)
	}
	return e
}

func wrappedStmt(s api.Stmt, times int, wrap func(api.Stmt) api.Stmt) api.Stmt {
	for range times {
		s = wrap(s)
	}
	return s
}
