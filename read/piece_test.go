package read_test

import (
	"strings"
	"testing"

	"postern/api"
	"postern/read"
)

// P1.1: blanks are 32, 9 and 10, and no other byte; none is needed where a piece ends.
func TestBlanks(t *testing.T) {
	want := mustRead(t, "func a ( ) { x := 1 y = x <= - 2 }")
	for _, s := range []string{
		"func a(){x:=1y=x<=-2}",
		" \t\n func\na\t(\n)\t{\n\n  x\t:=\t1\ny\n=\nx\n<=\n-\n2\n}\n\t ",
		"func a(){x:=1 y=x<=-2} ",
	} {
		checkSame(t, s, mustRead(t, s), want)
	}
	for _, s := range []string{"", " ", "\n", "\t", " \n\t "} {
		if fs := mustRead(t, s); len(fs) != 0 {
			t.Errorf("%q: %v", s, fs)
		}
	}
	for c := range 256 {
		s := "func a() { " + string([]byte{byte(c)}) + " }"
		if _, at, errno := read.Read(s); (errno == api.OK) != (c == 32 || c == 9 || c == 10) {
			t.Errorf("%q: %d, %v", s, at, errno)
		}
	}
}

// P1.1: bytes with which nothing begins.
func TestNothingBeginsSo(t *testing.T) {
	begins := "\t\n \"!%()*+,-/0123456789:<=>[]abcdefghijklmnopqrstuvwxyz{}"
	for c := range 256 {
		if strings.IndexByte(begins, byte(c)) < 0 {
			b := string([]byte{byte(c)})
			checkRefused(t, []refused{
				{b, 0, api.ErrForm},
				{"func a() { }" + b, 12, api.ErrForm},
				{"func a() { x" + b + " }", 12, api.ErrForm},
			})
		}
	}
	checkRefused(t, []refused{
		{"a & & b", 2, api.ErrForm},
		{"a | b", 2, api.ErrForm},
		{"a &&& b", 4, api.ErrForm},
		{"a ||| b", 4, api.ErrForm},
	})
}

// P1.1: words, up to MaxName bytes.
func TestWords(t *testing.T) {
	for _, s := range []string{"a", "z", "a0", "z9", "abcdefghijkl", "a12345678901", "func1", "iff", "xint"} {
		checkSame(t, s, exprOf(t, s), variable(s))
	}
	long := strings.Repeat("a", api.MaxName+1)
	checkRefused(t, []refused{
		{long, 0, api.ErrSize},
		{"func " + long + "() { }", 5, api.ErrSize},
		{"} a12345678901x ?", 2, api.ErrSize},
		{"continue12345", 0, api.ErrSize},
		{strings.Repeat("a", api.MaxName) + "B", api.MaxName, api.ErrForm},
		{"func A() { }", 5, api.ErrForm},
		{"func a_b() { }", 6, api.ErrForm},
		{"func é() { }", 5, api.ErrForm},
	})
}

// P1.1: numbers, up to MaxNumber, without a needless 0; too great is told ahead of that.
func TestNumbers(t *testing.T) {
	for s, n := range map[string]int{"0": 0, "7": 7, "10": 10, "100": 100, "1099511627775": api.MaxNumber - 1, "1099511627776": api.MaxNumber} {
		checkSame(t, s, exprOf(t, s), num(n))
	}
	checkRefused(t, within([]refused{
		{"x = 1099511627777 }", 4, api.ErrRange},
		{"x = 10995116277760 }", 4, api.ErrRange},
		{"x = 9223372036854775808 }", 4, api.ErrRange},
		{"x = 18446744073709551616 }", 4, api.ErrRange},
		{"x = 18446744073709551617 }", 4, api.ErrRange},
		{"x = " + strings.Repeat("9", 3000) + " }", 4, api.ErrRange},
		{"x = 1" + strings.Repeat("0", 64) + " }", 4, api.ErrRange},
		{"x = -1099511627777 }", 5, api.ErrRange},
		{"x = 00 }", 4, api.ErrForm},
		{"x = 01 }", 4, api.ErrForm},
		{"x = 007 }", 4, api.ErrForm},
		{"x = 01099511627776 }", 4, api.ErrForm},
		{"x = " + strings.Repeat("0", 100) + "1 }", 4, api.ErrForm},
		{"x = 01099511627777 }", 4, api.ErrRange},
		{"x = 1.5 }", 5, api.ErrForm},
	}))
	// a word may stand right behind a number, not the other way round
	checkSame(t, "x=1y=2", bodyOf(t, "x=1y=2"), bodyOf(t, "x = 1 y = 2"))
	checkSame(t, "0x", bodyOf(t, "y=0x=1"), bodyOf(t, "y = 0 x = 1"))
}

// P1.1: texts, with what stands for others in them.
func TestTexts(t *testing.T) {
	for source, s := range map[string]string{
		`""`:              "",
		`"a"`:             "a",
		`"\""`:            `"`,
		`"\\"`:            `\`,
		`"\n"`:            "\n",
		`"\\n"`:           `\n`,
		`"\\\""`:          `\"`,
		`"\n\n\\\"x"`:     "\n\n\\\"x",
		"\"\t \"":         "\t ",
		"\"\x00\xff\r\"":  "\x00\xff\r",
		`"é // { } func"`: "é // { } func",
		`"'?&|"`:          "'?&|",
	} {
		checkSame(t, source, exprOf(t, source), str(s))
	}
	checkSame(t, `"a""b"`, exprOf(t, `f("a" + "b")`), exprOf(t, `f("a"+"b")`))
	checkRefused(t, within([]refused{
		{`"\t"`, 0, api.ErrForm},
		{`"\N"`, 0, api.ErrForm},
		{`x = "ab\x" }`, 4, api.ErrForm},
		{`x = "ab\ " }`, 4, api.ErrForm},
		{"x = \"a\nb\" }", 4, api.ErrForm},
		{"x = \"a\\\nb\" }", 4, api.ErrForm},
		{"x = \"\n", 4, api.ErrForm},
		{`x = "\x`, 4, api.ErrForm},
		{`x = "\`, 4, api.ErrForm},
		{`x = "`, 4, api.ErrShort},
		{`x = "ab`, 4, api.ErrShort},
		{`x = "ab }`, 4, api.ErrShort},
		{`x = "\"`, 4, api.ErrShort},
		{`x = "\\\"`, 4, api.ErrShort},
		{`x = "\n`, 4, api.ErrShort},
		{`x = "a" "`, 8, api.ErrShort},
		{`x = "a" ? "`, 8, api.ErrForm},
	}))
	checkRefused(t, []refused{{`"`, 0, api.ErrShort}})
}

// P1.1: marks of two bytes win over those of one, and are no such marks with a blank within.
func TestMarks(t *testing.T) {
	checkSame(t, "a!=b", exprOf(t, "a!=b"), two(variable("a"), "!=", variable("b")))
	checkSame(t, "a<=b", exprOf(t, "a<=b"), two(variable("a"), "<=", variable("b")))
	checkSame(t, "a<-b", exprOf(t, "a<-b"), two(variable("a"), "<", one("-", variable("b"))))
	checkSame(t, "a&&!!b", exprOf(t, "a&&!!b"), two(variable("a"), "&&", one("!", one("!", variable("b")))))
	checkRefused(t, within([]refused{
		{"x : = 1 }", 0, api.ErrForm},
		{"x == 1 }", 0, api.ErrForm},
		{"x = a = = b }", 6, api.ErrForm},
		{"x = a < = b }", 8, api.ErrForm},
		{"x = a ! = b }", 6, api.ErrForm},
		{"x = a === b }", 8, api.ErrForm},
		{"x := = b }", 5, api.ErrForm},
		{"x ::= b }", 0, api.ErrForm},
	}))
}

// P1.1: the first wrong piece tells, and ahead of all that pieces make together.
func TestPiecesFirst(t *testing.T) {
	long := strings.Repeat("a", api.MaxName+1)
	checkRefused(t, []refused{
		{"} } ?", 4, api.ErrForm},
		{"( " + long, 2, api.ErrSize},
		{"func a() { print() } 00", 21, api.ErrForm},
		{"func func 1099511627777 ?", 10, api.ErrRange},
		{"func a(" + strings.Repeat("b int, ", 5) + "c int) { } \"", 53, api.ErrShort},
		{long + " 00", 0, api.ErrSize},
		{"00 " + long, 0, api.ErrForm},
		{"? \"", 0, api.ErrForm},
		{"\" ?", 0, api.ErrShort},
		{strings.Repeat("func a() { } ", api.MaxFuncs+1) + "?", 13 * (api.MaxFuncs + 1), api.ErrForm},
		{"func a() " + strings.Repeat("{ if x ", 50) + "?", 9 + 7*50, api.ErrForm},
	})
}

// P1.2: keywords are no names, wherever a name must stand; all other words are.
func TestKeywords(t *testing.T) {
	words := "func if else for range switch case default return print break continue delete true false len append slice map int bool string"
	for _, k := range strings.Fields(words) {
		checkRefused(t, []refused{
			{"func " + k + "() { }", 5, api.ErrForm},
			{"func a(" + k + " int) { }", 7, api.ErrForm},
			{"func a() { delete(" + k + ", 1) }", 18, api.ErrForm},
			{"func a() { for " + k + ", b := range c { } }", 15, api.ErrForm},
			{"func a() { for b, " + k + " := range c { } }", 18, api.ErrForm},
		})
		for _, s := range []string{k + "0", "x" + k} {
			if len(s) <= api.MaxName {
				checkSame(t, s, exprOf(t, s), variable(s))
			}
		}
	}
	for _, s := range strings.Fields("main var const nil struct type go text none true1 strings ints") {
		checkSame(t, s, exprOf(t, s), variable(s))
		if fs := mustRead(t, "func "+s+"("+s+" int) { "+s+"() }"); fs[0].Name != s || fs[0].Params[0].Name != s {
			t.Errorf("%q: %v", s, fs)
		}
	}
}

// P1.2: a keyword that begins no statement, and one that begins no value, is refused where it stands.
func TestKeywordsOutOfPlace(t *testing.T) {
	for _, k := range strings.Fields("func else range case default true false len append slice map int bool string") {
		checkRefused(t, within([]refused{{k + " := 1 }", 0, api.ErrForm}, {k + "(1) }", 0, api.ErrForm}}))
	}
	for _, k := range strings.Fields("func if else for range switch case default return print break continue delete int bool string") {
		checkRefused(t, within([]refused{{"x = " + k + " }", 4, api.ErrForm}, {"x = 1 + " + k + "(1) }", 8, api.ErrForm}}))
	}
}
