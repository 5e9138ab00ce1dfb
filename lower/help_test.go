package lower_test

import (
	"reflect"
	"slices"
	"strings"
	"testing"

	"postern/api"
	"postern/ir"
	"postern/lower"
	"postern/read"
)

// mustRead the functions of a source that is right.
func mustRead(t *testing.T, source string) []api.Func {
	t.Helper()
	fs, at, errno := read.Read(source)
	if errno != api.OK {
		t.Fatalf("%q: refused at %d with %v", source, at, errno)
	}
	return fs
}

// mustLower functions that fit, to a program that may be.
func mustLower(t *testing.T, what any, fs []api.Func) api.Program {
	t.Helper()
	p, errno := lower.Lower(fs)
	if errno != api.OK {
		t.Fatalf("%v: %v", what, errno)
	}
	if errno := ir.Check(p); errno != api.OK {
		t.Fatalf("%v: a program that may not be: %v", what, errno)
	}
	return p
}

// inMain: a source whose first function has that body; f gives its argument less 1, say prints it and gives it, no and yes do so with truths.
func inMain(body string) string {
	return "func main() { " + body + " } " +
		"func f(a int) int { return a - 1 } " +
		"func say(a int) int { print(a) return a } " +
		"func yes(a int) bool { print(a) return true } " +
		"func no(a int) bool { print(a) return false } "
}

// wantRun of a source: how it ends, and its lines, each a word of said.
func wantRun(t *testing.T, source string, end int, said string) {
	t.Helper()
	p := mustLower(t, source, mustRead(t, source))
	r, errno := ir.Run(p, api.MaxHeap, api.MaxFuel)
	if errno != api.OK || r.End != end || !slices.Equal(r.Lines, strings.Fields(said)) {
		t.Errorf("%s: %q, %d, %v; want %q, %d", source, r.Lines, r.End, errno, said, end)
	}
}

// says: of bodies of a first function what they print, each line a word, till they are done.
type says map[string]string

func (c says) check(t *testing.T) {
	t.Helper()
	for body, said := range c {
		wantRun(t, inMain(body), api.Done, said)
	}
}

// ending: what a body prints, and how it ends.
type ending struct {
	body string
	end  int
	said string
}

func checkEnds(t *testing.T, l []ending) {
	t.Helper()
	for _, c := range l {
		wantRun(t, inMain(c.body), c.end, c.said)
	}
}

// wantRoom: with so many words behind the Data it is done, with one word less it is not.
func wantRoom(t *testing.T, body string, words int) {
	t.Helper()
	p := mustLower(t, body, mustRead(t, inMain(body)))
	for less, end := range []int{api.Done, api.BadRoom} {
		heap := len(p.Data) + words - less
		if words == 0 && less == 1 {
			continue
		}
		if r, errno := ir.Run(p, heap, api.MaxFuel); errno != api.OK || r.End != end {
			t.Errorf("%s: with %d words %d, %v; want %d", body, words-less, r.End, errno, end)
		}
	}
}

// deepBody: a first function that calls others till so many calls wait, itself too; the last one has that body.
func deepBody(body string, calls int) string {
	return "func main() { deep(" + itoa(calls-2) + ", slice(5), map()) } " +
		"func deep(n int, l slice, m map) { if n > 0 { deep(n - 1, l, m) return } " + body + " print(77) } " +
		"func one() { } func two() { one() }"
}

// wantDeep: a body that needs so many calls more than those that wait.
func wantDeep(t *testing.T, body string, more int) {
	t.Helper()
	for calls := 2; calls <= api.MaxCalls; calls++ {
		if calls+more > api.MaxCalls {
			wantRun(t, deepBody(body, calls), api.BadDeep, "")
		} else {
			wantRun(t, deepBody(body, calls), api.Done, "77")
		}
	}
}

// Short ways to write trees.

func num(n int) api.Expr         { return api.Expr{Kind: api.Num, N: n} }
func text(s string) api.Expr     { return api.Expr{Kind: api.Text, S: s} }
func variable(s string) api.Expr { return api.Expr{Kind: api.Var, S: s} }

func of(kind int, l ...api.Expr) api.Expr { return api.Expr{Kind: kind, Args: l} }

func with(e api.Expr, s string) api.Expr {
	e.S = s
	return e
}

func two(a api.Expr, op string, b api.Expr) api.Expr { return with(of(api.Two, a, b), op) }

func call(s string, l ...api.Expr) api.Expr { return with(of(api.Call, l...), s) }

func doing(kind int, l ...api.Expr) api.Stmt { return api.Stmt{Kind: kind, Exprs: l} }

func naming(s string, kind int, l ...api.Expr) api.Stmt {
	return api.Stmt{Kind: kind, S: s, Exprs: l}
}

// mainOf: a first function alone.
func mainOf(l ...api.Stmt) []api.Func { return []api.Func{{Name: "main", Body: l}} }

// repeated: so many times the same.
func repeated[T any](n int, x T) []T {
	l := make([]T, n)
	for i := range l {
		l[i] = x
	}
	return l
}

// die: numbers that look drawn, the same each time.
type die uint64

func (d *die) n(most int) int {
	*d = *d*6364136223846793005 + 1442695040888963407
	return int(uint64(*d>>33) % uint64(most))
}

// one of these.
func one[T any](d *die, l ...T) T { return l[d.n(len(l))] }

func checkSame(t *testing.T, what string, got, want any) {
	t.Helper()
	if !reflect.DeepEqual(got, want) {
		t.Errorf("%s: %v; want %v", what, got, want)
	}
}
