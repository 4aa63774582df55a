package pool_test

import (
	"fmt"

	"paritymill/api"
)

// The bounds and the states are written out, so that they share no number with the program.
const (
	mostDisks  = 10
	mostSpares = 10

	works   = 0
	spare   = 1
	failed  = 2
	filling = 3
)

// device is one disk, which knows by itself where it stands: its state, and that of slots, come of that.
type device struct {
	broken, full, placed bool
	slot                 int
}

func (d device) state() int {
	switch {
	case d.broken:
		return failed
	case !d.placed:
		return spare
	case d.full:
		return works
	}
	return filling
}

// model is a pool as the chapter says it: a list of its disks, and how many slots there are.
type model struct {
	wide int
	list []device
}

func newModel(wide, spares int) *model {
	m := &model{wide: wide, list: make([]device, wide+spares)}
	for at := range wide {
		m.list[at] = device{full: true, placed: true, slot: at}
	}
	return m
}

// has tells that there is such a disk.
func (m *model) has(d int) bool {
	for at := range m.list {
		if at == d {
			return true
		}
	}
	return false
}

// lacking are the slots that have no disk, rising.
func (m *model) lacking() (out []int) {
	taken := map[int]bool{}
	for _, x := range m.list {
		if x.placed {
			taken[x.slot] = true
		}
	}
	for slot := range m.wide {
		if !taken[slot] {
			out = append(out, slot)
		}
	}
	return out
}

func (m *model) fail(d int) (int, api.Errno) {
	if !m.has(d) {
		return 0, api.ErrRange
	}
	was := m.list[d]
	if was.broken {
		return 0, api.ErrState
	}
	m.list[d] = device{broken: true}
	if !was.placed {
		return -1, api.OK
	}
	for at, x := range m.list {
		if !x.broken && !x.placed {
			m.list[at] = device{placed: true, slot: was.slot}
			return at, api.OK
		}
	}
	return -1, api.OK
}

func (m *model) fill(d int) api.Errno {
	if !m.has(d) {
		return api.ErrRange
	}
	if !m.list[d].placed || m.list[d].full {
		return api.ErrState
	}
	m.list[d].full = true
	return api.OK
}

func (m *model) fresh(d int) (int, api.Errno) {
	if !m.has(d) {
		return 0, api.ErrRange
	}
	if !m.list[d].broken {
		return 0, api.ErrState
	}
	m.list[d] = device{}
	if l := m.lacking(); len(l) > 0 {
		m.list[d] = device{placed: true, slot: l[0]}
		return l[0], api.OK
	}
	return -1, api.OK
}

func (m *model) states() (out []int) {
	for _, x := range m.list {
		out = append(out, x.state())
	}
	return out
}

func (m *model) slots() []int {
	out := make([]int, m.wide)
	for at := range out {
		out[at] = -1
	}
	for at, x := range m.list {
		if x.placed {
			out[x.slot] = at
		}
	}
	return out
}

// text tells all that a model is.
func (m *model) text() string {
	return fmt.Sprint(m.list)
}
