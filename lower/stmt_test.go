package lower_test

import (
	"strconv"
	"strings"
	"testing"

	"postern/api"
	"postern/ir"
)

// P5.5: variables have values of their own; what texts, slices and maps are made of is shared.
func TestVariables(t *testing.T) {
	says{
		"x := 1 y := x x = 2 print(x) print(y)":                                               "2 1",
		"x := 1 if true { x := x + 1 print(x) x = 5 print(x) } print(x)":                      "2 5 1",
		"x := 1 if true { x = 2 x := \"a\" print(x) } print(x)":                               "a 2",
		"x := 1 for i, j := range 3 { x = x * 2 x := x + 100 print(x) } print(x)":             "102 104 108 8",
		"l := slice(1, 2) k := l k[0] = 9 print(l[0]) l = slice(3) print(k[0]) print(len(l))": "9 9 1",
		"l := slice(1, 2) l = l print(l[1])":                                                  "2",
		"m := map() k := m k[1] = 5 print(m[1]) m = map() print(m[1]) print(k[1])":            "5 0 5",
		"s := \"a\" t := s t = \"b\" print(s) print(t)":                                       "a b",
		"a := 1 b := 2 c := a a = b b = c print(a) print(b)":                                  "2 1",
		"f := 3 print(f(f)) print(f)":                                                         "2 3",
		"x := 1 x = x + x x = x + x print(x)":                                                 "4",
		"b := true b = !b print(b) b = !b print(b)":                                           "false true",
	}.check(t)
}

// P5.5: what functions are given and give.
func TestFunctions(t *testing.T) {
	for source, said := range map[string]string{
		`func main() { x := 1 g(x) print(x) } func g(x int) { x = 2 print(x) }`:                                                                                                      "2 1",
		`func main() { l := slice(1) g(l) print(l[0]) print(len(l)) } func g(l slice) { l[0] = 7 l = append(l, 8) l[0] = 9 }`:                                                        "7 1",
		`func main() { m := map() g(m) print(m[1]) } func g(m map) { m[1] = 7 m = map() m[1] = 8 }`:                                                                                  "7",
		`func main() { print(g(3, "ab", slice(4, 5), true)) } func g(n int, s string, l slice, b bool) string { print(n) print(l[1]) print(b) return s + "!" }`:                      "3 5 true ab!",
		`func main() { l := g() print(l[0]) print(len(l)) m := h() print(m[2]) } func g() slice { return slice(6, 7) } func h() map { m := map() m[2] = 3 return m }`:                "6 2 3",
		`func main() { print(1) if 1 < 2 { return } print(2) }`:                                                                                                                      "1",
		`func main() { g(1) g(5) } func g(n int) { if n > 3 { print(n) return } print(0) }`:                                                                                          "0 5",
		`func main() { print(fib(10)) } func fib(n int) int { if n < 2 { return n } return fib(n - 1) + fib(n - 2) }`:                                                                "55",
		`func main() { print(odd(7)) } func odd(n int) bool { if n == 0 { return false } return even(n - 1) } func even(n int) bool { if n == 0 { return true } return odd(n - 1) }`: "true",
		`func main() { g() print(2) } func g() int { print(1) return 5 }`:                                                                                                            "1 2",
		`func main() { g() print(2) } func g() slice { print(1) return slice(5) }`:                                                                                                   "1 2",
		`func main() { print(g(0)) print(g(1)) print(g(9)) } func g(n int) int { switch n { case 0: { return 10 } case 1: { return 11 } default: { return 12 } } }`:                  "10 11 12",
		`func main() { print(g(0)) print(g(1)) } func g(n int) int { if n == 0 { return 10 } else if n == 1 { return 11 } else { return 12 } }`:                                      "10 11",
		`func main() { print(g(3)) } func g(n int) int { for true { n = n + 1 if n > 10 { return n } } return 0 }`:                                                                   "11",
		`func main() { print(g()) } func g() int { return 1 return 2 }`:                                                                                                              "1",
		`func main() { print(g(1, 2)) print(g(2, 1)) } func g(a int, b int) int { return a * 10 + b }`:                                                                               "12 21",
		`func main() { print(g(true)) } func g(b bool) bool { if b { b := !b return b } return b }`:                                                                                  "false",
	} {
		wantRun(t, source, api.Done, said)
	}
}

// P5.5: a Put of a Slice, behind both values; of a Map; a Delete.
func TestPutAndDelete(t *testing.T) {
	says{
		"l := slice(1, 2, 3) l[0] = 7 l[2] = l[0] + 1 print(l[0]) print(l[1]) print(l[2])":                                                   "7 2 8",
		"l := slice(1, 2) l[l[0]] = 5 print(l[1])":                                                                                           "5",
		"m := map() m[1] = 2 m[1] = 3 m[-5] = 4 print(m[1]) print(m[-5]) print(len(m))":                                                      "3 4 2",
		"m := map() m[m[0]] = m[0] + 7 print(m[0]) m[m[0]] = 1 print(m[7])":                                                                  "7 1",
		"m := map() for i, j := range 40 { m[i * 1000] = i } print(m[39000]) print(m[0]) print(len(m))":                                      "39 0 40",
		"m := map() m[1] = 2 delete(m, 1) print(m[1]) print(len(m)) delete(m, 1) delete(m, 9)":                                               "0 0",
		"m := map() m[1] = 2 m[2] = 3 delete(m, say(1)) print(m[1]) print(m[2]) m[1] = 4 print(m[1])":                                        "1 0 3 4",
		"m := map() k := m k[1] = 2 delete(m, 1) print(k[1])":                                                                                "0",
		"l := slice(1) m := map() if true { l := map() m := slice(2, 3) l[9] = 1 m[1] = 5 print(l[9]) print(m[1]) } print(l[0]) print(m[1])": "1 5 1 0",
	}.check(t)
	checkEnds(t, []ending{
		{"l := slice(1) l[1] = 2", api.BadAt, ""},
		{"l := slice(1) l[-1] = 2", api.BadAt, ""},
		{"l := slice() l[0] = 2", api.BadAt, ""},
		{"k := slice(1, 2) l := slice(3, 4) j := slice(5) l[say(2)] = say(6)", api.BadAt, "2 6"},
		{"k := slice(1, 2) l := slice(3, 4) j := slice(5) l[-say(1)] = say(6)", api.BadAt, "1 6"},
		{"l := slice(1) l[5] = 1 / 0", api.BadZero, ""},
		{"l := append(slice(1), 2) l[1] = 5 l[2] = 6", api.BadAt, ""},
		{"l := slice(1) l[1099511627776 * 8388608] = 2", api.BadAt, ""},
	})
}

// P5.5: If and For.
func TestIfAndFor(t *testing.T) {
	says{
		"if true { print(1) } print(2)":  "1 2",
		"if false { print(1) } print(2)": "2",
		"if 1 < 2 { print(1) } else { print(2) } if 1 > 2 { print(3) } else { print(4) }":                         "1 4",
		"if false { } else { print(1) } if true { } else { print(2) } if true { } print(3)":                       "1 3",
		"x := 3 if x == 1 { print(1) } else if x == 2 { print(2) } else if x == 3 { print(3) } else { print(4) }": "3",
		"x := 0 for x < 3 { print(x) x = x + 1 } print(9)":                                                        "0 1 2 9",
		"for false { print(1) } print(2)":                                                                         "2",
		"x := 0 for say(x) < 2 { x = x + 1 }":                                                                     "0 1 2",
		"x := 0 for x < 2 { y := 0 for y < 2 { print(x * 10 + y) y = y + 1 } x = x + 1 }":                         "0 1 10 11",
	}.check(t)
}

// P5.5: a Break ends the innermost loop, a Continue goes on with it.
func TestBreakAndContinue(t *testing.T) {
	says{
		"x := 0 for true { x = x + 1 if x == 3 { break } print(x) } print(9)":                                         "1 2 9",
		"x := 0 for x < 5 { x = x + 1 if x % 2 == 0 { continue } print(x) }":                                          "1 3 5",
		"for i, j := range 3 { for k, n := range 3 { if k == 1 { break } print(i * 10 + k) } print(7) }":              "0 7 10 7 20 7",
		"for i, j := range 3 { for k, n := range 3 { if k == 1 { continue } print(i * 10 + k) } }":                    "0 2 10 12 20 22",
		"for i, j := range 5 { switch i { case 1: { continue } case 3: { break } default: { print(i) } } print(8) }":  "0 8 2 8",
		"for i, j := range 3 { for true { break } if i == 1 { break } print(i) }":                                     "0",
		"for i, j := range 3 { x := 0 for x < 2 { x = x + 1 continue } if i == 1 { continue } print(i) }":             "0 2",
		"for i, j := range \"abc\" { if i == 1 { continue } print(j) }":                                               "97 99",
		"for i, j := range slice(5, 6, 7) { if i == 1 { continue } print(j) }":                                        "5 7",
		"m := map() m[1] = 5 m[2] = 6 m[3] = 7 for i, j := range m { if i == 2 { continue } print(j) }":               "5 7",
		"m := map() m[1] = 5 m[2] = 6 m[3] = 7 for i, j := range m { if i == 2 { break } print(j) } print(9)":         "5 9",
		"for true { break print(1) } print(2)":                                                                        "2",
		"x := 0 for x < 3 { x = x + 1 continue print(1) } print(x)":                                                   "3",
		"x := 0 for x < 9 { x = x + 1 if x > 2 { if x > 4 { break } else { continue } } else { print(x) } } print(x)": "1 2 5",
	}.check(t)
}

// P5.5: a line for each type, and no more than there may be.
func TestPrint(t *testing.T) {
	source := inMain("print(0) print(-7) print(true) print(false) print(\"\") print(\"x\")")
	r, _ := ir.Run(mustLower(t, source, mustRead(t, source)), api.MaxHeap, api.MaxFuel)
	checkSame(t, source, r, api.Run{Lines: []string{"0", "-7", "true", "false", "", "x"}, End: api.Done})
	lines := strings.TrimSpace(strings.Repeat("5 ", api.MaxPrint))
	checkEnds(t, []ending{
		{"for i, j := range 2000 { print(5) }", api.Done, lines},
		{"for i, j := range 2001 { print(5) }", api.BadLong, lines},
		{"for true { print(5) }", api.BadLong, lines},
	})
}

// switchOf numbers, each a case of its own that prints its place; two of each are in one case, if so.
func switchOf(nums []int, pairs bool, rest string) string {
	s := "switch x { "
	for i := 0; i < len(nums); i++ {
		s += "case " + itoa(nums[i])
		if pairs && i+1 < len(nums) {
			i++
			s += ", " + itoa(nums[i])
		}
		s += ": { print(" + itoa(i) + ") } "
	}
	return s + rest + "}"
}

// wantSwitch: with each of its numbers, and with those around them, that case is done, or the rest.
func wantSwitch(t *testing.T, nums []int) {
	t.Helper()
	where := map[int]int{}
	var asked []int
	for i, n := range nums {
		where[n] = i
		asked = append(asked, n, n-1, n+1)
	}
	asked = append(asked, 0, 1<<62, -1<<62, -1<<63, 1<<63-1)
	for _, pairs := range []bool{false, true} {
		for _, rest := range []string{"", "default: { } ", "default: { print(-1) } "} {
			source := "func main() { m := map() g(0) } func g(x int) { " + switchOf(nums, pairs, rest) + " print(77) }"
			fs := mustRead(t, source)
			for _, n := range asked {
				want := "77"
				if at, ok := where[n]; ok && pairs {
					want = itoa(min(at|1, len(nums)-1)) + " 77"
				} else if ok {
					want = itoa(at) + " 77"
				} else if strings.Contains(rest, "print") {
					want = "-1 77"
				}
				fs[0].Body[1].Exprs[0].Args[0] = number(n)
				r, errno := ir.Run(mustLower(t, source, fs), api.MaxHeap, api.MaxFuel)
				if got := strings.Join(r.Lines, " "); errno != api.OK || got != want {
					t.Fatalf("%s: with %d: %s, want %s", source, n, got, want)
				}
			}
		}
	}
}

// number as an expression, of whatever size.
func number(n int) api.Expr {
	const part = 1 << 32
	if -api.MaxNumber <= n && n <= api.MaxNumber {
		return num(n)
	}
	return two(two(num(n/part), "*", num(part)), "+", num(n%part))
}

// P5.5: the cases of a Switch, near together and far apart.
func TestSwitch(t *testing.T) {
	near := func(from, many, by int) []int {
		var l []int
		for i := range many {
			l = append(l, from+i*by)
		}
		return l
	}
	for _, nums := range [][]int{
		nil, {0}, {5}, {-5}, {1, 0}, {2, 0, 1}, {0, 1, 2, 3, 4}, {4, 3, 2, 1, 0}, {-2, -1, 0, 1, 2, 3},
		{10, 11, 12, 13, 14, 15}, {0, 2, 4, 6, 8, 10, 12}, {0, 3, 6, 9, 12, 15}, {7, 1, 9, 3, 5, 2, 8},
		{api.MaxNumber}, {api.MaxNumber, -api.MaxNumber}, {0, 1000000, -1000000, 5, 77, 1234567, 31, 30, 32},
		{-api.MaxNumber, -api.MaxNumber + 1, -api.MaxNumber + 2, -api.MaxNumber + 3, -api.MaxNumber + 4, -api.MaxNumber + 5},
		{api.MaxNumber, api.MaxNumber - 1, api.MaxNumber - 2, api.MaxNumber - 3, api.MaxNumber - 4, 0},
		{0, 1, 2, 3, 4, 5, 1000, 1001, 1002, 1003, 1004, 1005},
		near(-8, 17, 1), near(100, 17, 2), near(0, 17, 1000), near(-100, 15, 3),
	} {
		wantSwitch(t, nums)
	}
	d := die(3)
	for range 20 {
		var nums []int
		for n := d.n(20) - 10; len(nums) < 2+d.n(14); n += 1 + one(&d, 0, 0, 0, 1, 5, 100, 1<<30) {
			nums = append(nums, n)
		}
		for i := range nums { // in any order
			k := d.n(len(nums))
			nums[i], nums[k] = nums[k], nums[i]
		}
		wantSwitch(t, nums)
	}
	says{
		"switch say(3) { case 1: { print(1) } case 3: { print(4) } }":                                                    "3 4",
		"x := 1 switch x { case 1: { x = 2 } case 2: { x = 3 } } print(x)":                                               "2",
		"switch 5 { } print(1) switch 5 { default: { print(2) } } print(3)":                                              "1 2 3",
		"switch 1 { case 1: { x := 1 print(x) } case 2: { x := \"a\" print(x) } } x := 2 print(x)":                       "1 2",
		"switch 1 { case 1: { switch 2 { case 1: { print(1) } case 2: { print(2) } } print(3) } default: { print(4) } }": "2 3",
	}.check(t)
}

// P5.5: of near cases one step leads to the right one, of far ones few do; no table has places for all numbers that are between.
func TestSwitchSteps(t *testing.T) {
	for by, most := range map[int]int{1: 60, 1000: 100} {
		s := doing(api.Switch, num(299*by))
		for i := range 300 {
			s.Cases = append(s.Cases, api.Case{Nums: []int{i * by}, Body: []api.Stmt{doing(api.Print, num(i))}})
		}
		p := mustLower(t, by, mainOf(s))
		places := 0
		for _, b := range p.Funcs[0].Blocks {
			places += len(b[len(b)-1].To)
		}
		if places > 1500 {
			t.Errorf("by %d: %d places", by, places)
		}
		r, errno := ir.Run(p, api.MaxHeap, most)
		if errno != api.OK || r.End != api.Done || len(r.Lines) != 1 || r.Lines[0] != strconv.Itoa(299) {
			t.Errorf("by %d: %v, %v", by, r, errno)
		}
	}
}
