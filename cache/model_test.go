package cache_test

import (
	"slices"

	"paritymill/api"
)

// The bounds are written out, so that they share no number with the program.
const mostCells, mostSize, mostRoom = 40, 16, 12

// model is a cache as the chapter says it: cells as whoever reads sees them, wherever they come from, those below, and two lists, of those that are there and of those dirty.
type model struct {
	seen, under  []string
	there, dirty []int
	room, hits   int
}

func modelOf(cells []string, room int) *model {
	return &model{seen: slices.Clone(cells), under: slices.Clone(cells), room: room}
}

func (m *model) isNone(i int) bool {
	return i < 0 || i >= len(m.seen)
}

func (m *model) read(i int) (string, api.Errno) {
	if m.isNone(i) {
		return "", api.ErrRange
	}
	if slices.Contains(m.there, i) {
		m.hits++
	}
	m.use(i)
	return m.seen[i], api.OK
}

func (m *model) write(i int, b string) api.Errno {
	if m.isNone(i) || len(b) > mostSize {
		return api.ErrRange
	}
	m.use(i)
	m.seen[i] = b
	if !slices.Contains(m.dirty, i) {
		m.dirty = append(m.dirty, i)
	}
	return api.OK
}

// use takes a cell to the end of those that are there, and lets those go that are ahead of the last so many.
func (m *model) use(i int) {
	m.there = append(without(m.there, i), i)
	for len(m.there) > m.room {
		m.settle(m.there[0])
		m.there = m.there[1:]
	}
}

// settle a cell: it is below as it is seen, and is not dirty.
func (m *model) settle(i int) {
	m.under[i] = m.seen[i]
	m.dirty = without(m.dirty, i)
}

func (m *model) flush(n int) (which []int, told api.Errno) {
	if n < 0 {
		return nil, api.ErrRange
	}
	for len(m.dirty) > 0 && len(which) < n {
		which = append(which, m.dirty[0])
		m.settle(m.dirty[0])
	}
	return which, api.OK
}

func (m *model) crash() {
	m.seen = slices.Clone(m.under)
	m.there, m.dirty = nil, nil
}

// without one of a list, which stays as it is.
func without(l []int, i int) (out []int) {
	for _, x := range l {
		if x != i {
			out = append(out, x)
		}
	}
	return out
}
