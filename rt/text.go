package rt

import "postern/emit"

// cat: of two texts a new one.
func cat(m *emit.Maker, params []int) {
	first, firstLong, second, secondLong := params[0], params[1], params[2], params[3]
	long := m.Math(firstLong, "+", secondLong)
	address := m.Alloc(long)
	to := m.Copy(address)
	carry(m, first, m.Math(first, "+", firstLong), to)
	carry(m, second, m.Math(second, "+", secondLong), to)
	m.Back(address, long)
}

// same: whether two texts have the same bytes.
func same(m *emit.Maker, params []int) {
	long, otherLong := params[1], params[3]
	m.When(m.Math(long, "!=", otherLong), func() { m.Back(m.Num(0)) })
	unlike(m, params[0], params[2], long, func(_, _ int) { m.Back(m.Num(0)) })
	m.Back(m.Num(1))
}

// less: whether a text is ahead of another one.
func less(m *emit.Maker, params []int) {
	long, otherLong := params[1], params[3]
	shared := m.Copy(long)
	m.When(m.Math(otherLong, "<", long), func() { m.Set(shared, otherLong) })
	unlike(m, params[0], params[2], shared, func(x, y int) { m.Back(m.Math(x, "<", y)) })
	m.Back(m.Math(long, "<", otherLong))
}

// unlike: what is done with the first two words, among so many from two addresses on, that are not the same.
func unlike(m *emit.Maker, address, other, long int, do func(x, y int)) {
	one := m.Num(1)
	end := m.Math(address, "+", long)
	m.While(func() int { return m.Math(address, "<", end) }, func() {
		x, y := m.Load(address, 0), m.Load(other, 0)
		m.When(m.Math(x, "!=", y), func() { do(x, y) })
		m.Change(address, "+", one)
		m.Change(other, "+", one)
	})
}
