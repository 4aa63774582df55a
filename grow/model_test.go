package grow_test

import (
	"fmt"

	"paritymill/api"
)

// The bounds are written out, so that they share no number with the program.
const (
	mostCells = 40
	mostSize  = 16
	// Of disks ahead of the one more.
	mostWide = 9
)

// block of a place: which cell stands there, and its bytes.
type block struct {
	cell  int
	bytes string
}

// model is a grow whose disks are there: places with blocks, of which each is taken from one and put into another, and is looked for wherever it is.
type model struct {
	wide, count, moved int
	// Of each disk its places; nil is one in which no cell stands.
	disks [][]*block
}

func modelOf(cells []string, wide int) *model {
	m := &model{wide: wide, count: len(cells)}
	for range wide + 1 {
		m.disks = append(m.disks, make([]*block, len(cells)))
	}
	for i, b := range cells {
		m.put(walked(wide, i), &block{i, b})
	}
	return m
}

// walked goes from place to place, one behind the other, row by row.
func walked(wide, i int) api.Spot {
	at := api.Spot{}
	for range i {
		at.Disk++
		if at.Disk == wide {
			at = api.Spot{Row: at.Row + 1}
		}
	}
	return at
}

// put a block where none may be, as it would be overwritten.
func (m *model) put(at api.Spot, b *block) {
	if old := m.disks[at.Disk][at.Row]; old != nil {
		panic(fmt.Sprintf("cell %d would overwrite cell %d", b.cell, old.cell))
	}
	m.disks[at.Disk][at.Row] = b
}

// find where a cell stands, by looking into all places.
func (m *model) find(i int) (at api.Spot, ok bool) {
	for d, rows := range m.disks {
		for r, b := range rows {
			if b != nil && b.cell == i {
				return api.Spot{Disk: d, Row: r}, true
			}
		}
	}
	return at, false
}

func (m *model) step() (bool, api.Errno) {
	from, ok := m.find(m.moved)
	if !ok {
		return false, api.ErrState
	}
	b := m.disks[from.Disk][from.Row]
	m.disks[from.Disk][from.Row] = nil
	m.put(walked(m.wide+1, m.moved), b)
	m.moved++
	_, more := m.find(m.moved)
	return more, api.OK
}

func (m *model) read(i int) (string, api.Errno) {
	at, ok := m.find(i)
	if !ok {
		return "", api.ErrRange
	}
	return m.disks[at.Disk][at.Row].bytes, api.OK
}

func (m *model) write(i int, b string) api.Errno {
	at, ok := m.find(i)
	if !ok || len(b) > mostSize {
		return api.ErrRange
	}
	m.disks[at.Disk][at.Row].bytes = b
	return api.OK
}

// rows of each disk, cut behind the last place in which a cell stands.
func (m *model) rows() (out [][]string) {
	for _, places := range m.disks {
		var rows []string
		last := 0
		for r, b := range places {
			rows = append(rows, "")
			if b != nil {
				rows[r] = b.bytes
				last = r + 1
			}
		}
		out = append(out, rows[:last])
	}
	return out
}
