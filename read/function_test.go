package read_test

import (
	"strings"
	"testing"

	"postern/api"
)

// P1.3 and P1.6: functions, with types as params and results.
func TestFunctions(t *testing.T) {
	stop := stmts(api.Stmt{Kind: api.Break})
	all := []api.Param{{Name: "a", Type: 1}, {Name: "b", Type: 2}, {Name: "c", Type: 3}, {Name: "d", Type: 4}}
	for source, want := range map[string][]api.Func{
		"":                                    nil,
		"func a() { }":                        {{Name: "a"}},
		"func a() { break }":                  {{Name: "a", Body: stop}},
		"func a() int { }":                    {{Name: "a", Result: api.Int}},
		"func a() bool { }":                   {{Name: "a", Result: api.Bool}},
		"func a() string { }":                 {{Name: "a", Result: api.Str}},
		"func a() slice { }":                  {{Name: "a", Result: api.Slice}},
		"func a() map { break }":              {{Name: "a", Result: api.Map, Body: stop}},
		"func a(a map) { }":                   {{Name: "a", Params: []api.Param{{Name: "a", Type: api.Map}}}},
		"func a(a int, a int) { }":            {{Name: "a", Params: []api.Param{{Name: "a", Type: 1}, {Name: "a", Type: 1}}}},
		"func a() { } func a() { }":           {{Name: "a"}, {Name: "a"}},
		"func a(){}func b(c int){}":           {{Name: "a"}, {Name: "b", Params: []api.Param{{Name: "c", Type: 1}}}},
		"func b() { break } func a() int { }": {{Name: "b", Body: stop}, {Name: "a", Result: 1}},
		"func e(a int, b bool, c string, d slice) map { }": {{Name: "e", Params: all, Result: 5}},
	} {
		checkSame(t, source, mustRead(t, source), want)
	}
}

// P1.6: the source is at most MaxSource bytes long; all else comes behind that.
func TestMaxSource(t *testing.T) {
	head := "func a() { }"
	full := head + strings.Repeat(" ", api.MaxSource-len(head))
	checkSame(t, "of MaxSource bytes", mustRead(t, full), []api.Func{{Name: "a"}})
	blank := strings.Repeat("\n", api.MaxSource)
	checkSame(t, "blanks", mustRead(t, blank), []api.Func(nil))
	s := strings.Repeat("a", api.MaxSource-len("func a() { x = \"\" }"))
	checkSame(t, "a long text", exprOf(t, `"`+s[:len(s)-1]+`"`), str(s[:len(s)-1]))
	checkRefused(t, []refused{
		{full + " ", 0, api.ErrSize},
		{full + "}", 0, api.ErrSize},
		{blank + "\n", 0, api.ErrSize},
		{"\n" + full, 0, api.ErrSize},
		{strings.Repeat(full, 100), 0, api.ErrSize},
		{blank + "?", 0, api.ErrSize},
		{blank[1:] + "?", api.MaxSource - 1, api.ErrForm},
		{blank[1:] + "}", api.MaxSource - 1, api.ErrForm},
		{full[:api.MaxSource-4] + "func", api.MaxSource, api.ErrShort},
	})
}

// P1.6: params, up to MaxParams; more are told when the ")" was read.
func TestMaxParams(t *testing.T) {
	if fs := mustRead(t, "func a(a int, b int, c int, d int) { }"); len(fs[0].Params) != api.MaxParams {
		t.Error(fs)
	}
	five := "func a(a int, b int, c int, d int, e int"
	n := len(five)
	checkRefused(t, []refused{
		{five + ") { }", 0, api.ErrCount},
		{five + ", f int) int { }", 0, api.ErrCount},
		{five + ")", 0, api.ErrCount},
		{five + ") func ]", 0, api.ErrCount},
		{"func b() { } " + five + ") { }", 13, api.ErrCount},
		{five, n, api.ErrShort},
		{five + " int) { }", n + 1, api.ErrForm},
		{five + ",) { }", n + 1, api.ErrForm},
	})
}

// P1.6: functions, up to MaxFuncs; one more is told when its block was read.
func TestMaxFuncs(t *testing.T) {
	full := strings.Repeat("func a() { } ", api.MaxFuncs)
	n := len(full)
	if fs := mustRead(t, full); len(fs) != api.MaxFuncs {
		t.Errorf("%d functions", len(fs))
	}
	checkRefused(t, []refused{
		{full + "func b() { }", n, api.ErrSize},
		{full + "func b() { } func", n, api.ErrSize},
		{full + "func b() { } }", n, api.ErrSize},
		{full + full, n, api.ErrSize},
		{full + "func b() { ", n + 11, api.ErrShort},
		{full + "func b() { x }", n + 11, api.ErrForm},
		{full + "func b() { print() }", n + 16, api.ErrCount},
		{full + "func b(a int, b int, c int, d int, e int) { }", n, api.ErrCount},
		{full + "}", n, api.ErrForm},
		{full + "func", n + 4, api.ErrShort},
	})
}

// P1.3 and P1.6: what must stand where in a function, and its place.
func TestWrongFunctions(t *testing.T) {
	checkRefused(t, []refused{
		{"a", 0, api.ErrForm},
		{" x := 1", 1, api.ErrForm},
		{"}", 0, api.ErrForm},
		{"7", 0, api.ErrForm},
		{"\"func\" a() { }", 0, api.ErrForm},
		{"if x { }", 0, api.ErrForm},
		{"func", 4, api.ErrShort},
		{"func ", 5, api.ErrShort},
		{"func (", 5, api.ErrForm},
		{"func 1", 5, api.ErrForm},
		{"func \"a\"() { }", 5, api.ErrForm},
		{"func a", 6, api.ErrShort},
		{"func a { }", 7, api.ErrForm},
		{"func a(", 7, api.ErrShort},
		{"func a(,) { }", 7, api.ErrForm},
		{"func a(int) { }", 7, api.ErrForm},
		{"func a(int a) { }", 7, api.ErrForm},
		{"func a(a", 8, api.ErrShort},
		{"func a(a) { }", 8, api.ErrForm},
		{"func a(a b) { }", 9, api.ErrForm},
		{"func a(a func) { }", 9, api.ErrForm},
		{"func a(a, b int) { }", 8, api.ErrForm},
		{"func a(a int", 12, api.ErrShort},
		{"func a(a int b int) { }", 13, api.ErrForm},
		{"func a(a int,) { }", 13, api.ErrForm},
		{"func a(a int] { }", 12, api.ErrForm},
		{"func a()", 8, api.ErrShort},
		{"func a() ;", 9, api.ErrForm},
		{"func a() }", 9, api.ErrForm},
		{"func a() b { }", 9, api.ErrForm},
		{"func a() len { }", 9, api.ErrForm},
		{"func a() int int { }", 13, api.ErrForm},
		{"func a() (int) { }", 9, api.ErrForm},
		{"func a() int", 12, api.ErrShort},
		{"func a() {", 10, api.ErrShort},
		{"func a() { } }", 13, api.ErrForm},
		{"func a() { } x", 13, api.ErrForm},
		{"func a() { func b() { } }", 11, api.ErrForm},
		{"func a() { } func", 17, api.ErrShort},
		{"func a() { print() } func", 16, api.ErrCount},
		{"func a() { x } func b() { y }", 11, api.ErrForm},
	})
}
