package rt

import "postern/emit"

// leastRoom that a slice gets when it had too little.
const leastRoom = 4

// add a number to a slice.
func add(m *emit.Maker, params []int) {
	address, long, room, number := params[0], params[1], params[2], params[3]
	m.When(m.Math(long, ">=", room), func() {
		least := m.Num(leastRoom)
		m.Change(room, "+", room)
		m.When(m.Math(room, "<", least), func() { m.Set(room, least) })
		old := m.Copy(address)
		m.Set(address, m.Alloc(room))
		carry(m, old, m.Math(old, "+", long), m.Copy(address))
	})
	m.Store(m.Math(address, "+", long), 0, number)
	m.Back(address, m.Math(long, "+", m.Num(1)), room)
}
