package comp_test

import (
	"slices"
	"strings"
	"testing"

	"postern/api"
	"postern/comp"
	"postern/vm"
)

// mustCompile a source that is right.
func mustCompile(t *testing.T, s string, opt bool) api.Program {
	t.Helper()
	m, at, errno := comp.Compile(s, opt)
	if errno != api.OK || at != 0 {
		t.Fatalf("%s: refused at %d with %v", s, at, errno)
	}
	if errno := vm.Check(m); errno != api.OK {
		t.Fatalf("%s: the machine code is refused: %v", s, errno)
	}
	return m
}

// wantRun of a source, on the whole heap.
func wantRun(t *testing.T, s string, end int, lines ...string) {
	t.Helper()
	for _, opt := range ways {
		r, errno := vm.Run(mustCompile(t, s, opt), api.MaxHeap, 10*api.MaxFuel)
		if errno != api.OK || r.End != end || !slices.Equal(r.Lines, lines) {
			t.Errorf("%s, %v: %q, %d, %v; want %q, %d", s, opt, r.Lines, r.End, errno, lines, end)
		}
	}
}

const exampleOfMap = `func main() { m := map() for i, r := range "abca" { m[r] = m[r] + 1 } for k, v := range m { print(k) print(v) } }`

// TestExamples of the whole.
func TestExamples(t *testing.T) {
	wantRun(t, exampleOfMap, api.Done, "97", "2", "98", "1", "99", "1")
	wantRun(t, `func main() { l := slice(1) print(l[0]) print(l[1]) }`, api.BadAt, "1")
}

// inMain: a source whose first function has that body; f gives its argument less 1, sum of all its arguments something, say prints it and gives it, no and yes do so with truths.
func inMain(body string) string {
	return "func main() { " + body + " } " +
		"func f(a int) int { return a - 1 } " +
		"func sum(a int, s string, l slice, t bool) int { if t { return a + len(s) + l[0] + l[1] } return 0 } " +
		"func say(a int) int { print(a) return a } " +
		"func yes(a int) bool { print(a) return true } " +
		"func no(a int) bool { print(a) return false } "
}

// says: of bodies of a first function what they print, a word a line, till they are done.
type says map[string]string

func (c says) check(t *testing.T) {
	t.Helper()
	for body, said := range c {
		wantRun(t, inMain(body), api.Done, strings.Split(said, " ")...)
	}
}

// TestExpressions of every kind.
func TestExpressions(t *testing.T) {
	says{
		`print(7) print(-7) print(1099511627776)`:                                                                                                             "7 -7 1099511627776",
		`print("ab") print("") print("\"\\") print("é")`:                                                                                                      `ab  "\ é`,
		`print("a\nb") print(len("\n"))`:                                                                                                                      "a\nb 1",
		`print(true) print(false)`:                                                                                                                            "true false",
		`x := 5 print(x) x = 6 print(x)`:                                                                                                                      "5 6",
		`print(1 + 2 * 3 - 4 / 3 % 2) print((1 + 2) * 3) print(-7 / 2) print(-7 % 2)`:                                                                         "6 9 -3 -1",
		`x := 1099511627776 print(x * 16777216) print(x * 8388608) print(x * 8388608 - 1)`:                                                                    "0 -9223372036854775808 9223372036854775807",
		`print(1 < 2) print(2 <= 1) print(2 > 1) print(1 >= 2) print(1 == 1) print(1 != 1)`:                                                                   "true false true false true false",
		`print("a" + "b" == "ab") print("a" != "a") print("a" < "b") print("b" <= "ab")`:                                                                      "true false true false",
		`print("b" > "ab") print("" >= "a") print(true == true) print(true != false)`:                                                                         "true false true true",
		`print(no(1) && yes(2)) print(yes(3) && no(4)) print(yes(5) || no(6))`:                                                                                "1 false 3 4 false 5 true",
		`print(no(1) || yes(2)) print(!yes(3)) print(-say(4))`:                                                                                                "1 2 true 3 false 4 -4",
		`print(say(1) + say(2) * say(3)) l := slice(say(4), say(5)) print(len(l))`:                                                                            "1 2 3 7 4 5 2",
		`print(f(f(9))) print(sum(1, "ab", slice(3, 4), true)) print(sum(1, "", slice(), no(2)))`:                                                             "7 10 2 0",
		`print(len("aé")) print(len(slice(1, 2))) m := map() m[4] = 4 m[5] = 0 print(len(m))`:                                                                 "3 2 2",
		`print("aé"[1]) print(slice(1, 2)[1]) m := map() m[-4] = 3 print(m[-4]) print(m[4])`:                                                                  "195 2 3 0",
		`l := append(slice(), 1) k := append(l, 2) print(len(l)) print(len(k)) print(k[1])`:                                                                   "1 2 2",
		`l := slice(1) for i, j := range 9 { l = append(l, l[i] * 2) } print(l[9])`:                                                                           "512",
		`a := 1 b := 2 c := 3 d := 4 e := 5 g := 6 h := 7 k := 8 i := 9 j := f(11) print(a*a + b*b + c*c + d*d + e*e + g*g + h*h + k*k + i*i + j*j) print(j)`: "385 10",
	}.check(t)
}

// TestStatements of every kind.
func TestStatements(t *testing.T) {
	says{
		`x := 1 if x == 1 { x := 5 print(x) } print(x)`:                                                                                    "5 1",
		`l := slice(1, 2) k := l k[0] = 7 print(l[0]) s := "a" u := s s = "b" print(u)`:                                                    "7 a",
		`m := map() k := m k[3] = 4 print(m[3]) m[3] = m[3] + 1 print(k[3]) print(len(k))`:                                                 "4 5 1",
		`if f(1) == 0 { print(1) } else { print(2) } if f(1) == 1 { print(3) } else { print(4) } if no(5) { } print(6)`:                    "1 4 5 6",
		`for i, x := range 4 { if x == 0 { print("a") } else if x == 1 { print("b") } else if x == 2 { print("c") } else { print("d") } }`: "a b c d",
		`x := 0 for x < 3 { print(x) x = x + 1 } for no(9) { print(8) }`:                                                                   "0 1 2 9",
		`for i, j := range 3 { print(i + j) } for i, j := range -3 { print(i) } for i, j := range "é\"" { print(i) print(j) }`:             "0 2 4 0 233 2 34",
		`l := slice(5, 6) for i, j := range l { l[1] = 8 l = append(l, 9) print(i) print(j) } print(len(l))`:                               "0 5 1 8 4",
		`m := map() m[3] = 1 for k, v := range m { if k < 6 { m[k + 1] = v * 2 } print(k) print(v) }`:                                      "3 1 4 2 5 4 6 8",
		`m := map() m[1] = 1 m[2] = 2 m[3] = 3 delete(m, 1) for k, v := range m { delete(m, 3) print(k) } print(len(m)) print(m[3])`:       "2 1 0",
		`for i, j := range 6 { switch i { case 0, 3: { print("x") } case -1, 2: { print(i) } default: { print("no") } } }`:                 "x no 2 x no no",
		`for i, j := range slice(-5, 7, 1000000) { switch j { case 1000000: { print(1) } case -5: { print(2) } } }`:                        "2 1",
		`for i, j := range 9 { if i == 1 { continue } if i == 4 { break } for k, n := range 9 { if k == i { break } print(k) } }`:          "0 1 0 1 2",
		`for i, j := range 9 { switch i { case 2: { break } default: { continue } } } print("out")`:                                        "out",
		`x := 9 for true { x = x - 1 if x > 5 { continue } print(x) if x < 4 { break } }`:                                                  "5 4 3",
		`f(1) yes(2) say(3) if no(4) || yes(5) { return } print(6)`:                                                                        "2 3 4 5",
		`for true { for i, j := range map() { } for i, j := range "ab" { print(j) return } }`:                                              "97",
		`m := map() for i, j := range 20 { m[i * 1000 - 7] = i } s := 0 for k, v := range m { s = s + k + v } print(s) print(len(m))`:      "190050 20",
	}.check(t)
}

// TestFunctions: with values of every type, that call each other.
func TestFunctions(t *testing.T) {
	for s, said := range map[string]string{
		`func main() { print(fib(15)) } func fib(n int) int { if n < 2 { return n } return fib(n - 1) + fib(n - 2) }`:                                              "610",
		`func main() { print(even(7)) print(even(8)) } func even(n int) bool { return n == 0 || odd(n - 1) } func odd(n int) bool { return n > 0 && even(n - 1) }`: "false true",
		`func main() { print(twice(twice("ab", 1), 2)) } func twice(s string, n int) string { for i, j := range n { s = s + s } return s }`:                        "abababababababab",
		`func main() { l := more(more(slice(), 1), 2) for i, j := range l { print(j) } } func more(l slice, n int) slice { return append(append(l, n), n) }`:       "1 1 2 2",
		`func main() { m := with(map(), 3) with(m, 4) print(len(m)) print(m[4]) } func with(m map, n int) map { m[n] = n * n return m }`:                           "2 16",
		`func main() { none(slice(1), map(), "x", true) } func none(l slice, m map, s string, t bool) { if t { print(s) return } print(1) }`:                       "x",
		`func main() { print(pick(2)) print(pick(9)) } func pick(n int) string { switch n { case 2: { return "two" } default: { return "all" } } }`:                "two all",
	} {
		wantRun(t, s, api.Done, strings.Fields(said)...)
	}
}

// TestEndings: each way in which a run ends, and what is printed till then.
func TestEndings(t *testing.T) {
	for _, c := range []struct {
		body string
		end  int
		said string
	}{
		{``, api.Done, ""},
		{`print(1)`, api.Done, "1"},
		{`l := slice(1) print(l[0]) print(l[-1])`, api.BadAt, "1"},
		{`print("ab"[1]) print("ab"[2])`, api.BadAt, "98"},
		{`l := slice() l[say(0)] = say(1) print(2)`, api.BadAt, "0 1"},
		{`l := append(slice(), 5) print(l[0]) print(l[1])`, api.BadAt, "5"},
		{`print(1 / f(2)) print(say(1) / f(1))`, api.BadZero, "1 1"},
		{`x := 0 print(1) x = 5 % x`, api.BadZero, "1"},
		{`x := say(3) / 0`, api.BadZero, "3"},
		{`deep(38)`, api.Done, "0"},
		{`deep(39)`, api.BadDeep, ""},
		{`deep(38) deep(38)`, api.Done, "0 0"},
		{`s := "ab" for true { print(len(s)) s = s + s }`, api.BadRoom, "2 4 8 16 32 64 128 256 512 1024 2048 4096 8192"},
		{`l := slice() for true { l = append(l, 1) }`, api.BadRoom, ""},
		{`print(3) for true { m := map() }`, api.BadRoom, "3"},
		{`for true { }`, api.Spent, ""},
		{`print(4) x := 0 for x < 9 { print(5) for yes(x) { } }`, api.BadLong, "4 5" + strings.Repeat(" 0", api.MaxPrint-2)},
		{`for true { print(6) }`, api.BadLong, strings.Repeat("6 ", api.MaxPrint)},
	} {
		deep := `func deep(n int) { if n == 0 { print(0) return } deep(n - 1) }`
		wantRun(t, inMain(c.body)+deep, c.end, strings.Fields(c.said)...)
	}
}

// TestRoom: with so many words behind the Data a source is done, with one word less it is not.
func TestRoom(t *testing.T) {
	for body, words := range map[string]int{
		`l := slice(1, 2, 3)`:                         3,
		`l := slice() l = append(l, 1)`:               4,
		`l := slice(1) l = append(append(l, 2), 3)`:   5,
		`s := "ab" + "c"`:                             3,
		`m := map() m[4] = 1`:                         16,
		`m := map() for i, j := range 5 { m[i] = i }`: 40,
	} {
		for _, opt := range ways {
			m := mustCompile(t, inMain(body), opt)
			for less, end := range []int{api.Done, api.BadRoom} {
				r, errno := vm.Run(m, len(m.Data)+words-less, api.MaxFuel)
				if errno != api.OK || r.End != end {
					t.Errorf("%s, %v: with %d words %+v, %v; want %d", body, opt, words-less, r, errno, end)
				}
			}
		}
	}
}

// TestFuel: with less fuel than it needs a source is Spent, and what it printed is how the whole begins.
func TestFuel(t *testing.T) {
	for _, s := range []string{exampleOfMap, inMain(`print(1) for i, j := range "ab" { print(j) if i == 1 { print(1 / 0) } }`)} {
		for _, opt := range ways {
			m := mustCompile(t, s, opt)
			whole, errno := vm.Run(m, 1000, api.MaxFuel)
			if errno != api.OK || whole.End == api.Spent {
				t.Fatalf("%s: %+v, %v", s, whole, errno)
			}
			spent := true
			for fuel := range 3000 {
				r, errno := vm.Run(m, 1000, fuel)
				if errno != api.OK || !agree(r, whole) || !spent && r.End == api.Spent {
					t.Fatalf("%s: with fuel %d %+v, %v; want %+v", s, fuel, r, errno, whole)
				}
				spent = r.End == api.Spent
			}
			if spent {
				t.Errorf("%s: still Spent", s)
			}
		}
	}
}

// TestCompileLess: with opt what is not needed is left out.
func TestCompileLess(t *testing.T) {
	all := func(m api.Program) int {
		n := 0
		for _, c := range m.Funcs {
			n += instrs(c)
		}
		return n
	}
	for _, s := range []string{`func main() { }`, exampleOfMap, inMain(`x := 2 y := x * 3 print(y + 1) z := y`)} {
		if as, less := all(mustCompile(t, s, false)), all(mustCompile(t, s, true)); less >= as {
			t.Errorf("%s: %d instructions, %d without opt", s, less, as)
		}
	}
}
