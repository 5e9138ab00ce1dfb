// Package calc: what the operators of code make of two numbers, for the layers that do code and those that leave out what can be known ahead.
package calc

// IsOp: is it an operator that Two knows?
func IsOp(op string) bool {
	switch op {
	case "+", "-", "*", "/", "%", "==", "!=", "<", "<=", ">", ">=":
		return true
	}
	return false
}

// Divides: may nothing come of an operator, as the second number is 0?
func Divides(op string) bool { return op == "/" || op == "%" }

// Two numbers: what an operator makes of them; false: one is divided by 0.
func Two(a int, op string, b int) (int, bool) {
	if Divides(op) {
		return divided(a, op, b)
	}
	switch op {
	case "+":
		return a + b, true
	case "-":
		return a - b, true
	case "*":
		return a * b, true
	}
	return compared(a, op, b), true
}

func divided(a int, op string, b int) (int, bool) {
	if b == 0 {
		return 0, false
	}
	if op == "/" {
		return a / b, true
	}
	return a % b, true
}

// compared: 1, if it is so, else 0.
func compared(a int, op string, b int) int {
	var so bool
	switch op {
	case "==":
		so = a == b
	case "!=":
		so = a != b
	case "<":
		so = a < b
	case "<=":
		so = a <= b
	case ">":
		so = a > b
	case ">=":
		so = a >= b
	}
	if so {
		return 1
	}
	return 0
}
