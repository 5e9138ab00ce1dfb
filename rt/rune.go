package rt

import "postern/emit"

// noRune is told, with one byte, where none begins.
const noRune = 65533

const (
	mostRune       = 1114111
	surrogates     = 2048 // so many there are,
	surrogatesMark = 27   // and of no other runes this is the quotient
)

// Bytes of UTF-8.
const (
	onesEnd   = 128 // each one below is a rune
	laters    = 64  // so many bytes can stand behind a first one,
	laterMark = 2   // and of no other bytes this is the quotient
)

// lead: what the first one of several bytes tells.
type lead struct {
	from  int // the first byte of this kind
	long  int // so many bytes the rune has
	least int // rune that needs so many
}

var leads = [...]lead{{192, 2, 1 << 7}, {224, 3, 1 << 11}, {240, 4, 1 << 16}}

// decode the rune at a place of a text.
func decode(m *emit.Maker, params []int) {
	address, long, place := params[0], params[1], params[2]
	one := m.Num(1)
	none := func() { m.Back(m.Num(noRune), one) }
	at := m.Math(address, "+", place)
	first := m.Load(at, 0)
	m.When(against(m, first, "<", onesEnd), func() { m.Back(first, one) })
	from, bytes, least := ledBy(m, first)
	m.When(m.Math(m.Math(long, "-", place), "<", bytes), none)
	whole := m.Math(first, "-", from)
	takeLaters(m, at, m.Math(at, "+", bytes), whole, none)
	// Bytes that lead nothing need no look of their own: those below the first lead come out below 0, those behind the last one beyond all runes.
	surrogate := against(m, against(m, whole, "/", surrogates), "==", surrogatesMark)
	m.When(anyOf(m, m.Math(whole, "<", least), against(m, whole, ">", mostRune), surrogate), none)
	m.Back(whole, bytes)
}

// against: what an operator makes of a variable and a number.
func against(m *emit.Maker, v int, op string, n int) int {
	return m.Math(v, op, m.Num(n))
}

// anyOf some truths: not 0, if one of them is not.
func anyOf(m *emit.Maker, truths ...int) int {
	sum := m.Num(0)
	for _, t := range truths {
		m.Change(sum, "+", t)
	}
	return sum
}

// ledBy: what a first byte tells, as variables.
func ledBy(m *emit.Maker, first int) (from, long, least int) {
	from, long, least = m.Num(leads[0].from), m.Num(leads[0].long), m.Num(leads[0].least)
	for i := 1; i < len(leads); i++ {
		m.When(against(m, first, ">=", leads[i].from), func() {
			m.SetNum(from, leads[i].from)
			m.SetNum(long, leads[i].long)
			m.SetNum(least, leads[i].least)
		})
	}
	return from, long, least
}

// takeLaters: what the bytes behind the first one, up to an address, add to a rune; where one of them can't, none is done.
func takeLaters(m *emit.Maker, at, end, whole int, none func()) {
	one, values, mark := m.Num(1), m.Num(laters), m.Num(laterMark)
	m.Change(at, "+", one)
	m.While(func() int { return m.Math(at, "<", end) }, func() {
		later := m.Load(at, 0)
		m.When(m.Math(m.Math(later, "/", values), "!=", mark), none)
		m.Change(whole, "*", values)
		m.Change(whole, "+", m.Math(later, "%", values))
		m.Change(at, "+", one)
	})
}
