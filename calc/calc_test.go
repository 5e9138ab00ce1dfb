package calc_test

import (
	"math"
	"testing"

	"postern/calc"
)

func TestTwo(t *testing.T) {
	for _, c := range []struct {
		a    int
		op   string
		b    int
		want int
	}{
		{7, "+", -9, -2}, {math.MaxInt, "+", 1, math.MinInt},
		{7, "-", 9, -2}, {math.MinInt, "-", 1, math.MaxInt},
		{7, "*", -9, -63}, {math.MinInt, "*", -1, math.MinInt}, {1 << 32, "*", 1 << 32, 0},
		{7, "/", 2, 3}, {-7, "/", 2, -3}, {7, "/", -2, -3}, {-7, "/", -2, 3}, {math.MinInt, "/", -1, math.MinInt},
		{7, "%", 2, 1}, {-7, "%", 2, -1}, {7, "%", -2, 1}, {-7, "%", -2, -1}, {math.MinInt, "%", -1, 0},
		{2, "==", 2, 1}, {2, "==", 3, 0}, {2, "!=", 2, 0}, {2, "!=", 3, 1},
		{2, "<", 3, 1}, {2, "<", 2, 0}, {3, "<", 2, 0}, {2, "<=", 3, 1}, {2, "<=", 2, 1}, {3, "<=", 2, 0},
		{2, ">", 3, 0}, {2, ">", 2, 0}, {3, ">", 2, 1}, {2, ">=", 3, 0}, {2, ">=", 2, 1}, {3, ">=", 2, 1},
		{math.MinInt, "<", math.MaxInt, 1},
	} {
		if got, ok := calc.Two(c.a, c.op, c.b); !ok || got != c.want {
			t.Errorf("%d %s %d: %d, %v; want %d", c.a, c.op, c.b, got, ok, c.want)
		}
		if !calc.IsOp(c.op) {
			t.Errorf("%s is no operator", c.op)
		}
		n, ok := calc.Two(c.a, c.op, 0)
		if calc.Divides(c.op) == ok || !ok && n != 0 {
			t.Errorf("%d %s 0: %d, %v", c.a, c.op, n, ok)
		}
	}
}

func TestNoOps(t *testing.T) {
	for _, op := range []string{"", "=", "!", "&&", "||", "<>", "++", " +", "+ ", "add"} {
		if calc.IsOp(op) || calc.Divides(op) {
			t.Errorf("%q is an operator", op)
		}
	}
}
