package rt_test

import (
	"fmt"
	"slices"
	"testing"

	"postern/emit"
)

type entry struct {
	key, value int
	lives      bool
}

// table: what a map must be.
type table struct {
	address, room, where int
	entries              []entry
}

// place of the entry with a key, or -1.
func (x *table) place(key int) int {
	return slices.IndexFunc(x.entries, func(e entry) bool { return e.key == key && e.lives })
}

func (x *table) find(key int) int {
	if at := x.place(key); at >= 0 {
		return x.where + 3*at
	}
	return -1
}

func (x *table) get(key int) int {
	if at := x.place(key); at >= 0 {
		return x.entries[at].value
	}
	return 0
}

func (x *table) drop(key int) {
	if at := x.place(key); at >= 0 {
		x.entries[at].lives = false
	}
}

// put, on a heap of so many words; how many it has then.
func (x *table) put(key, value, heap int) int {
	if at := x.place(key); at >= 0 {
		x.entries[at].value = value
		return heap
	}
	if len(x.entries) == x.room {
		x.room *= 2
		x.where = heap
		heap += 3 * x.room
	}
	x.entries = append(x.entries, entry{key, value, true})
	return heap
}

// told: the words of the map, and those of its entries.
func (x *table) told() []int {
	var live int
	var words []int
	for _, e := range x.entries {
		live += truth(e.lives)
		words = append(words, e.key, e.value, truth(e.lives))
	}
	return append([]int{len(x.entries), x.room, x.where, live}, words...)
}

// printMap with so many entries: as told tells it.
func printMap(m *emit.Maker, address, entries int) {
	for n := range 4 {
		show(m, m.Load(address, n))
	}
	where, zero := m.Load(address, 2), m.Num(0)
	for i := range entries {
		show(m, m.Load(where, 3*i), m.Load(where, 3*i+1))
		show(m, m.Math(m.Load(where, 3*i+2), "!=", zero))
	}
}

// story: what is done to maps, in a program and to what they must be.
type story struct {
	m    *emit.Maker
	heap int
	vars []int // the addresses of the maps
	maps []*table
	want []int
}

func (s *story) newMap() {
	s.vars = append(s.vars, s.m.Call("_map", 1)[0])
	s.maps = append(s.maps, &table{address: s.heap, room: 4, where: s.heap + 4})
	s.heap += 16
}

func (s *story) put(at, key, value int) {
	s.m.Call("_put", 0, s.vars[at], s.m.Num(key), s.m.Num(value))
	s.heap = s.maps[at].put(key, value, s.heap)
}

func (s *story) drop(at, key int) {
	s.m.Call("_drop", 0, s.vars[at], s.m.Num(key))
	s.maps[at].drop(key)
}

// ask for a key, in each way.
func (s *story) ask(at, key int) {
	k := s.m.Num(key)
	show(s.m, s.m.Call("_find", 1, s.vars[at], k)[0], s.m.Call("_get", 1, s.vars[at], k)[0])
	s.want = append(s.want, s.maps[at].find(key), s.maps[at].get(key))
}

// tell all maps, and how many words the heap has.
func (s *story) tell() {
	for i, x := range s.maps {
		show(s.m, s.vars[i])
		printMap(s.m, s.vars[i], len(x.entries))
		s.want = append(s.want, x.address)
		s.want = append(s.want, x.told()...)
	}
	printHeap(s.m, 0)
	s.want = append(s.want, s.heap)
}

// wantStory of some new maps, behind some words.
func wantStory(t *testing.T, what any, words, maps int, do func(s *story)) {
	t.Helper()
	wantInts(t, what, make([]int, words), func(m *emit.Maker) []int {
		s := &story{m: m, heap: words}
		for range maps {
			s.newMap()
		}
		do(s)
		s.tell()
		return s.want
	})
}

func TestNewMaps(t *testing.T) {
	for words := range 3 {
		for maps := range 4 {
			wantStory(t, fmt.Sprint(words, maps), words, maps, func(s *story) {
				for i := range maps {
					s.ask(i, 0)
				}
			})
		}
	}
	wantRoom(t, "a map", nil, 16, func(m *emit.Maker) { m.Call("_map", 1) })
	wantRoom(t, "two, behind a word", []int{1}, 33, func(m *emit.Maker) {
		m.Call("_map", 1)
		m.Call("_map", 1)
	})
}

func TestPut(t *testing.T) {
	keys := []int{5, 0, -1, greatest, least, 1, 6, 255, 256}
	for many := range len(keys) + 1 {
		wantStory(t, many, 3, 1, func(s *story) {
			for i, k := range keys[:many] {
				s.put(0, k, 100+i)
			}
			for _, k := range append(keys, 7, -2) {
				s.ask(0, k)
			}
		})
	}
}

func TestPutAgain(t *testing.T) {
	wantStory(t, "each value is another one", 0, 1, func(s *story) {
		for _, value := range []int{1, 0, -1, greatest, least, 9} {
			for key := range 4 { // there is no room for one more, and none comes
				s.put(0, key, value+key)
			}
			s.tell()
		}
	})
}

func TestDrop(t *testing.T) {
	wantStory(t, "the only one", 0, 1, func(s *story) {
		s.put(0, 8, 80)
		s.drop(0, 8)
		s.ask(0, 8)
	})
	wantStory(t, "none, and one that is not there", 0, 1, func(s *story) {
		s.drop(0, 0)
		s.put(0, 8, 80)
		s.drop(0, 0)
		s.ask(0, 8)
	})
	wantStory(t, "twice", 0, 1, func(s *story) {
		s.put(0, 1, 10)
		s.put(0, 2, 20)
		s.drop(0, 1)
		s.drop(0, 1)
		s.ask(0, 1)
		s.ask(0, 2)
	})
}

// TestPutAnew: a key that was dropped comes behind all others; those that do not live need room, too.
func TestPutAnew(t *testing.T) {
	wantStory(t, "behind the others", 0, 1, func(s *story) {
		s.put(0, 1, 10)
		s.put(0, 2, 20)
		s.drop(0, 1)
		s.put(0, 1, 11)
		s.ask(0, 1)
		s.put(0, 1, 12)
		s.ask(0, 1)
	})
	wantStory(t, "one key, again and again", 0, 1, func(s *story) {
		for n := range 20 {
			s.put(0, 7, n)
			s.ask(0, 7)
			s.drop(0, 7)
			s.ask(0, 7)
		}
	})
}

func TestMapsGrow(t *testing.T) {
	for _, c := range []struct{ many, room int }{{1, 16}, {4, 16}, {5, 16 + 24}, {8, 16 + 24}, {9, 16 + 24 + 48}, {16, 16 + 24 + 48}, {17, 16 + 24 + 48 + 96}} {
		wantRoom(t, c.many, nil, c.room, func(m *emit.Maker) {
			x := m.Call("_map", 1)[0]
			for key := range c.many {
				m.Call("_put", 0, x, m.Num(key), m.Num(key))
			}
		})
	}
	wantStory(t, "entries that do not live stay in their order", 0, 1, func(s *story) {
		for key := range 40 {
			s.put(0, key, -key)
			if key%3 == 0 {
				s.drop(0, key/2)
			}
		}
		for key := range 41 {
			s.ask(0, key)
		}
	})
}

// TestMapsOften: drawn things are done to several maps.
func TestMapsOften(t *testing.T) {
	d := die(4)
	for n := range 150 {
		keys := []int{0, 1, 2, 3, -1, least, greatest, 4, 5, 6, 7, 8, 9}[:1+d.n(13)]
		wantStory(t, n, d.n(3), 2, func(s *story) {
			for range d.n(80) {
				at, key := d.n(2), d.one(keys...)
				switch d.n(6) {
				case 0, 1, 2:
					s.put(at, key, d.n(1000)-500)
				case 3, 4:
					s.drop(at, key)
				default:
					s.ask(at, key)
				}
			}
		})
	}
}

// TestLaidMaps: a map is what its words say, whoever wrote them: here its entries stand ahead of it, from the first word of the heap on; there is room for one, and what stands behind that does not count.
func TestLaidMaps(t *testing.T) {
	for _, lives := range []int{0, 1, 2, -1, least, greatest} {
		data := []int{50, 500, lives, 60, 600, 1, 1, 1, 0, 1, 9}
		wantInts(t, lives, data, func(m *emit.Maker) []int {
			s := &story{m: m, heap: len(data), vars: []int{m.Num(6)}}
			s.maps = []*table{{6, 1, 0, []entry{{50, 500, lives != 0}}}}
			if lives == 0 {
				m.Store(s.vars[0], 3, m.Num(0))
			}
			s.ask(0, 50)
			s.ask(0, 60)
			s.tell()
			s.put(0, 50, 501)
			s.ask(0, 50)
			s.drop(0, 50)
			s.put(0, 60, 601)
			s.tell()
			return s.want
		})
	}
}
