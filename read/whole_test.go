package read_test

import (
	"reflect"
	"slices"
	"strings"
	"testing"
	"unsafe"

	"postern/api"
	"postern/read"
)

// sources that look drawn: what must come of each, and its pieces.
func eachSource(t *testing.T, many int, look func(d *die, fs []api.Func, bits []bit)) {
	t.Helper()
	d := die(7)
	kinds := map[int]bool{}
	for range many {
		fs, bits := d.functions()
		for _, f := range fs {
			for _, s := range f.Body {
				kinds[s.Kind] = true
			}
		}
		look(&d, fs, bits)
	}
	if len(kinds) != 13 {
		t.Errorf("of 13 kinds of statements %d were drawn", len(kinds))
	}
}

// What comes of it: blanks change nothing, wherever a piece ends.
func TestDrawnSources(t *testing.T) {
	eachSource(t, 300, func(d *die, want []api.Func, bits []bit) {
		for _, blanks := range []string{" ", "\n", "\t", " \n\t"} {
			s := joined(bits, blanks)
			checkSame(t, s, mustRead(t, s), want)
		}
		s := tight(bits)
		checkSame(t, s, mustRead(t, s), want)
	})
}

// tight: with blanks only where two pieces would become one.
func tight(bits []bit) string {
	s := ""
	for _, b := range bits {
		if s != "" && joins(s[len(s)-1], b.s[0]) {
			s += " "
		}
		s += b.s
	}
	return s
}

func joins(a, b byte) bool {
	digit := '0' <= b && b <= '9'
	letter := 'a' <= b && b <= 'z'
	switch {
	case 'a' <= a && a <= 'z':
		return digit || letter
	case '0' <= a && a <= '9': // it may be the end of a word
		return digit || letter
	}
	return b == '=' && strings.IndexByte(":=!<>", a) >= 0
}

// P1.3: a source that is cut behind a piece ends too early, unless it ends behind a function.
func TestCutSources(t *testing.T) {
	eachSource(t, 60, func(d *die, fs []api.Func, bits []bit) {
		done := 0
		open := 0
		for i, b := range bits {
			switch b.s {
			case "{":
				open++
			case "}":
				open--
			}
			s := joined(bits[:i+1], " ")
			if b.s == "}" && open == 0 {
				done++
				checkSame(t, s, mustRead(t, s), fs[:done])
				continue
			}
			checkRefused(t, []refused{{s, len(s), api.ErrShort}, {s[:len(s)-1], len(s) - 1, api.ErrShort}})
		}
	})
}

// P1.3: a piece that may stand nowhere within a function is refused where it stands, or at the name of the statement right ahead.
func TestSpoiltSources(t *testing.T) {
	eachSource(t, 60, func(d *die, fs []api.Func, bits []bit) {
		open, at := 0, 0
		for i, b := range bits {
			switch b.s {
			case "{":
				open++
			case "}":
				open--
			}
			from := at
			at += len(b.s) + 1
			if b.s == "}" && open == 0 {
				continue
			}
			s := joined(bits[:i+1], " ") + "func " + joined(bits[i+1:], " ")
			if b.opens {
				checkRefused(t, []refused{{s, from, api.ErrForm}})
			} else {
				checkRefused(t, []refused{{s, at, api.ErrForm}})
			}
		}
	})
}

// Every call ends, none panics, and with an error there are no functions, and a place within the source.
func TestWildSources(t *testing.T) {
	d := die(3)
	wild := func(s string) {
		fs, at, errno := read.Read(s)
		switch {
		case errno == api.OK && at != 0:
			t.Errorf("%q: OK at %d", s, at)
		case errno != api.OK && (len(fs) > 0 || at < 0 || at > len(s)):
			t.Errorf("%q: %v, %d, %v", s, fs, at, errno)
		case errno != api.OK && !slices.Contains([]api.Errno{api.ErrSize, api.ErrRange, api.ErrForm, api.ErrShort, api.ErrDeep, api.ErrCount}, errno):
			t.Errorf("%q: %v", s, errno)
		}
		again, at2, errno2 := read.Read(s)
		if at2 != at || errno2 != errno || !reflect.DeepEqual(again, fs) {
			t.Errorf("%q: another answer", s)
		}
	}
	for range 2000 {
		b := make([]byte, d.n(60))
		for i := range b {
			b[i] = byte(d.n(256))
		}
		wild(string(b))
		wild("func a() { x = \"" + string(b))
	}
	words := strings.Fields(`func if else for range switch case default return print break continue delete true false len append slice map int bool string a b 0 1 "x" := == != <= >= && || ( ) { } [ ] , : = < > + - * / % !`)
	for range 5000 {
		s := "func a() {"
		for range d.n(20) {
			s += " " + d.one(words...)
		}
		wild(s)
	}
	for _, w := range words {
		wild(strings.Repeat(w+" ", api.MaxSource/(len(w)+1)))
		wild("func a() { " + strings.Repeat(w+" ", 900))
		wild("func a() { x = " + strings.Repeat(w+" ", 900))
	}
}

// What is answered is new memory: no list shares any with another one, and no text with the source.
func TestNewMemory(t *testing.T) {
	eachSource(t, 40, func(d *die, want []api.Func, bits []bit) {
		s := strings.Clone(joined(bits, " "))
		first, _, _ := read.Read(s)
		second, _, _ := read.Read(s)
		var spans []span
		walk(reflect.ValueOf(first), func(x span) { spans = append(spans, x) })
		walk(reflect.ValueOf(second), func(x span) { spans = append(spans, x) })
		spans = append(spans, span{uintptr(unsafe.Pointer(unsafe.StringData(s))), uintptr(len(s)), true})
		slices.SortFunc(spans, func(a, b span) int {
			switch {
			case a.from < b.from:
				return -1
			case a.from > b.from:
				return 1
			}
			return 0
		})
		for i := 1; i < len(spans); i++ {
			a, b := spans[i-1], spans[i]
			if a.from+a.size > b.from && (a.list || b.list) {
				t.Fatalf("%q: memory is shared", s)
			}
		}
		if !reflect.DeepEqual(plainFuncs(second), want) {
			t.Errorf("%q: another answer", s)
		}
	})
}

// span of memory: of a list, with its spare room, or of a text.
type span struct {
	from, size uintptr
	list       bool
}

// walk tells the memory of all lists and texts in a value.
func walk(v reflect.Value, tell func(span)) {
	switch v.Kind() {
	case reflect.String:
		if v.Len() > 0 {
			tell(span{uintptr(unsafe.Pointer(unsafe.StringData(v.String()))), uintptr(v.Len()), false})
		}
	case reflect.Slice:
		if v.Cap() > 0 {
			tell(span{v.Pointer(), uintptr(v.Cap()) * v.Type().Elem().Size(), true})
		}
		for i := range v.Len() {
			walk(v.Index(i), tell)
		}
	case reflect.Struct:
		for i := range v.NumField() {
			walk(v.Field(i), tell)
		}
	}
}
