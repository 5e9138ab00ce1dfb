package lower_test

import (
	"testing"

	"postern/api"
)

// P5.3: how many calls wait for each other, when something needs some more.
func TestDeep(t *testing.T) {
	for body, more := range map[string]int{
		"":                  0,
		"one()":             1,
		"two()":             2,
		"one() two() one()": 2,

		`s := "a" + "b"`:                  1,
		`b := "a" == "b"`:                 1,
		`b := "a" != "a"`:                 1,
		`b := "a" < "b"`:                  1,
		`b := "a" >= "b"`:                 1,
		`b := "a" <= "b"`:                 1,
		`b := "a" > "b"`:                  1,
		`b := len("a") + "b"[0]`:          0,
		`for i, j := range "a" { }`:       1,
		`for i, j := range "" { }`:        0,
		`b := false && "a" == "b"`:        0,
		`b := true || "a" == "b"`:         0,
		`b := 1 == 2 != (true == !false)`: 0,

		"x := slice(1, 2)":                 0,
		"x := append(l, 1)":                1,
		"x := l[0] l[0] = len(l)":          0,
		"for i, j := range l { l[i] = j }": 0,
		"for i, j := range 3 { }":          0,
		"x := map()":                       1,
		"x := len(m)":                      0,
		"x := m[1]":                        2,
		"m[1] = 2":                         2,
		"delete(m, 1)":                     2,
		"for i, j := range m { }":          0,
		"switch 5 { case 1, 2, 3, 4, 5: { } case 900: { } }": 0,
	} {
		wantDeep(t, body, more)
	}
}

// P5.3: the calls that wait are counted, not all that there were.
func TestManyCalls(t *testing.T) {
	wantRun(t, "func main() { for i, j := range 1000 { g(30) } print(1) } func g(n int) { if n > 0 { g(n - 1) } }", api.Done, "1")
	wantRun(t, "func main() { print(1) main() print(2) }", api.BadDeep, repeatLines("1", api.MaxCalls))
	wantRun(t, "func main() { g(38) g(39) } func g(n int) { if n > 0 { g(n - 1) } else { print(7) } }", api.BadDeep, "7")
	wantRun(t, "func main() { print(g(38)) print(g(39)) } func g(n int) int { if n > 0 { return g(n - 1) + n } return 0 }", api.BadDeep, "741")
	// the arguments come first
	wantRun(t, "func main() { print(g(1)) } func g(n int) int { print(n) return g(n + 1 + 0 / (39 - n)) }", api.BadZero, sequence(1, 39))
	wantRun(t, "func main() { print(g(1)) } func g(n int) int { print(n) return g(n + 1 + 0 / (40 - n)) }", api.BadDeep, sequence(1, 39))
}

func repeatLines(s string, n int) string {
	lines := ""
	for range n {
		lines += s + " "
	}
	return lines
}

func sequence(from, to int) string {
	s := itoa(from)
	for n := from + 1; n <= to; n++ {
		s += " " + itoa(n)
	}
	return s
}
