package comp_test

import "strings"

// signatures of the functions that drawn sources have behind their first one.
const signatures = `num(a int, t bool) int
truth(s string, m map) bool
text(s string, l slice) string
list(l slice, m map, a int, s string) slice
table(m map) map
none(m map, t bool)`

// writer of drawn sources: each function has variables of the same names, a and b of ints, t of bools, s and u of strings, l of slices, m of maps.
type writer struct {
	*die
	at     int // the place of the function that is being written
	result string
	loops  int
}

// source that looks drawn, and is right.
func (d *die) source() string {
	w := &writer{die: d}
	s := "func main() { " + w.body("") + "}"
	for i, head := range strings.Split(signatures, "\n") {
		w.at, w.result = i+1, strings.TrimSpace(head[strings.Index(head, ")")+1:])
		s += "\nfunc " + head + " { " + w.body(head) + "}"
	}
	return s
}

// body of a function with that head.
func (w *writer) body(head string) string {
	s := ""
	for _, v := range []string{"a int", "b int", "t bool", "s string", "u string", "l slice", "m map"} {
		if name, kind, _ := strings.Cut(v, " "); !strings.Contains(head, v) {
			s += name + " := " + w.plain(kind) + " "
		}
	}
	for range 1 + w.n(3) {
		s += w.stmt(2)
	}
	s += "print(" + w.value(one(w.die, "int", "bool", "string"), 1) + ") "
	if w.at == 0 {
		s += "print(a) print(t) print(s) for i, j := range l { print(j) } for i, j := range m { print(i) print(j) } "
	}
	if w.result != "" {
		return s + "return " + w.value(w.result, 1) + " "
	}
	return s
}

// plain value, without others in it.
func (w *writer) plain(kind string) string {
	switch kind {
	case "int":
		return one(w.die, "0", "1", "2", "3", "-1", "7", "1099511627776")
	case "bool":
		return one(w.die, "true", "false")
	case "string":
		return one(w.die, `""`, `"a"`, `"ab"`, `"é"`, `"a\n\"\\"`, "\"x\xff\"", `"日本"`)
	case "slice":
		return one(w.die, "slice()", "slice(1)", "slice(3, 4)", "slice(1, 2, 3, 4)")
	}
	return "map()"
}

func (w *writer) variable(kind string) string {
	switch kind {
	case "int":
		return one(w.die, "a", "b")
	case "bool":
		return "t"
	case "string":
		return one(w.die, "s", "u")
	case "slice":
		return "l"
	}
	return "m"
}

// value of a type.
func (w *writer) value(kind string, n int) string {
	if n <= 0 || w.n(4) == 0 {
		if w.n(3) == 0 {
			return w.plain(kind)
		}
		return w.variable(kind)
	}
	n--
	if w.n(6) == 0 {
		if s, ok := w.call(kind, n); ok {
			return s
		}
	}
	two := func(kind string, ops ...string) string {
		return "(" + w.value(kind, n) + " " + one(w.die, ops...) + " " + w.value(kind, n) + ")"
	}
	switch kind {
	case "int":
		return w.number(n, two)
	case "bool":
		return one(w.die, two("bool", "&&", "||", "==", "!="), two("int", "==", "!=", "<", "<=", ">", ">="), two("string", "==", "!=", "<", "<=", ">", ">="), "!"+w.value("bool", n))
	case "string":
		return two("string", "+")
	case "slice":
		return one(w.die, "append("+w.value("slice", n)+", "+w.value("int", n)+")", "slice("+w.value("int", n)+", "+w.value("int", n)+", 5)")
	}
	return w.plain(kind)
}

func (w *writer) number(n int, two func(kind string, ops ...string) string) string {
	switch w.n(7) {
	case 0, 1:
		return two("int", "+", "-", "*")
	case 2:
		return w.value("int", n) + " " + one(w.die, "/", "%") + " " + one(w.die, "2", "3", "-1", "a")
	case 3:
		return "-" + w.value("int", n)
	case 4:
		return "len(" + w.value(one(w.die, "string", "slice", "map"), n) + ")"
	case 5:
		return "m[" + w.value("int", n) + "]"
	}
	return one(w.die, "l", "s", "u") + "[" + one(w.die, "0", "0", "1", "a") + "]"
}

// call of a function behind this one, seldom of one ahead, with that result.
func (w *writer) call(result string, n int) (string, bool) {
	for i, head := range strings.Split(signatures, "\n") {
		end := strings.Index(head, ")")
		if strings.TrimSpace(head[end+1:]) != result || i < w.at && w.n(12) > 0 {
			continue
		}
		open := strings.Index(head, "(")
		var args []string
		for _, p := range strings.Split(head[open+1:end], ", ") {
			args = append(args, w.value(strings.Fields(p)[1], n))
		}
		return head[:open+1] + strings.Join(args, ", ") + ")", true
	}
	return "", false
}

// block of statements; the first one may declare a name once more.
func (w *writer) block(n int) string {
	s := "{ "
	if w.n(3) == 0 {
		kind := one(w.die, "int", "bool", "string", "slice", "map")
		s += w.variable(kind) + " := " + w.value(kind, 1) + " "
	}
	for range w.n(3) {
		s += w.stmt(n)
	}
	return s + "} "
}

func (w *writer) loop(n int) string {
	w.loops++
	defer func() { w.loops-- }()
	return w.block(n)
}

func (w *writer) stmt(n int) string {
	if n > 0 && w.n(2) == 0 {
		return w.branching(n - 1)
	}
	switch w.n(10) {
	case 0:
		return "l[" + one(w.die, "0", "0", "1", "b") + "] = " + w.value("int", 2) + " "
	case 1, 2:
		return "m[" + w.value("int", 1) + "] = " + w.value("int", 2) + " "
	case 3:
		return "delete(m, " + w.value("int", 1) + ") "
	case 4:
		return "print(" + w.value(one(w.die, "int", "bool", "string"), 2) + ") "
	case 5:
		if w.loops > 0 {
			return one(w.die, "break ", "continue ")
		}
	case 6:
		if s, ok := w.call(one(w.die, "int", "bool", "string", "slice", "map", "", ""), 1); ok {
			return s + " "
		}
	case 7:
		if w.n(4) == 0 && w.result != "" {
			return "if t { return " + w.value(w.result, 1) + " } "
		}
		if w.n(4) == 0 && w.result == "" {
			return "if t { return } "
		}
	}
	kind := one(w.die, "int", "bool", "string", "slice", "map")
	return w.variable(kind) + " = " + w.value(kind, 3) + " "
}

func (w *writer) branching(n int) string {
	switch w.n(7) {
	case 0:
		return "if " + w.value("bool", 2) + " " + w.block(n)
	case 1:
		return "if " + w.value("bool", 2) + " " + w.block(n) + "else " + w.block(n)
	case 2:
		return "if " + w.value("bool", 2) + " " + w.block(n) + "else if " + w.value("bool", 1) + " " + w.block(n) + "else " + w.block(n)
	case 3:
		return "switch " + w.value("int", 2) + " { case 0, 1: " + w.block(n) + "case -1, 5: " + w.block(n) + one(w.die, "", "default: "+w.block(n)) + "} "
	case 4:
		return "if true { c := 0 for c < " + itoa(w.n(5)) + one(w.die, "", " && t") + " { c = c + 1 " + w.loop(n)[2:] + "} "
	}
	return "for " + one(w.die, "i, j", "a, b") + " := range " + w.value(one(w.die, "int", "string", "slice", "slice", "map", "map"), 2) + " " + w.loop(n)
}
