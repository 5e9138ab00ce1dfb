package ir

import "postern/api"

// isMath: is it an operator that calc knows?
func isMath(op string) bool {
	switch op {
	case "+", "-", "*", "/", "%", "==", "!=", "<", "<=", ">", ">=":
		return true
	}
	return false
}

// calc: what an operator makes of two numbers, and whether the run ends by that.
func calc(op string, a, b int) (int, int) {
	switch op {
	case "+":
		return a + b, goesOn
	case "-":
		return a - b, goesOn
	case "*":
		return a * b, goesOn
	case "/", "%":
		return divided(op, a, b)
	}
	return compared(op, a, b), goesOn
}

func divided(op string, a, b int) (int, int) {
	if b == 0 {
		return 0, api.BadZero
	}
	if op == "/" {
		return a / b, goesOn
	}
	return a % b, goesOn
}

// compared: 1, if it is so, else 0.
func compared(op string, a, b int) int {
	var so bool
	switch op {
	case "==":
		so = a == b
	case "!=":
		so = a != b
	case "<":
		so = a < b
	case "<=":
		so = a <= b
	case ">":
		so = a > b
	case ">=":
		so = a >= b
	}
	if so {
		return 1
	}
	return 0
}
